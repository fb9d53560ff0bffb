/-
  The program's outline of a field that is one, at a height that is one. The program's Zigzag at right arguments. A drawn field, whatever the code. A drawn stock, part and tool: two statements, walked alone. A drawn stock, part and tool, whatever the code. One statement of JobOf, walked alone. A drawn stock, part and tool that go together. The laws' own choice out of a code, the source of choices, whatever the code. Blocks and fields that stay as they are while new memory is made. The law of Zigzag: a drawn stock, part and tool. A drawn stock, part, tool and step: the program's Zigzag answers as the model; its moves can all be milled by the program, and leave just the program's floor, or the stock where it is lower; what is left above the part is the sum that the program's Rest tells.
-/
import Derived.Test.YtjhldjojkaphkaaCol2
import Derived.Test.YtjhldjojkaphkaaFza2
import Derived.Test.YtjhldjojkaphkaaFza1
import Derived.Test.YtjhldjojkaphkaaVb
import Derived.Test.YtjhldjojkaphkaaRowX
import Derived.Test.YtjhldjojkaphkaaByt
import Derived.Lib.MinMax
import Derived.Test.YtjhldjojkaphkaaInv2
import Derived.Test.YtjhldjojkaphkaaPlcK
import Derived.Test.YtjhldjojkaphkaaOwn
import Derived.Test.YtjhldjojkaphkaaUnd
import Derived.Test.YtjhldjojkaphkaaChecked
import Derived.Test.YtjhldjojkaphkaaRows
import Derived.ShutString
import Derived.ChangeOld
namespace Go.Proofs.Ytjhldjojkaphkaa
open Go.ChangeShapes Go.WideShapes Go.ChangeAt Go.RowKit Go.Shelf
attribute [local go_sem] Oper.semAt_some
set_option linter.unusedVariables false
set_option linter.unusedSimpArgs false

/-- between two rounds: the function's own boxes; no column so far is above -/
structure Lk (w : World) (B W H n c g po : Nat) (T : List Int) (z : Int) (O : Nat → Prop) (k : Nat) (X : World) : Prop where
  far : ∀ b, O b → B ≤ b
  big : B ≤ X.heap.size
  v2 : vb X w.heap.size 25 [.int .i64 (W : Int), .int .i64 (H : Int), .slice (some ⟨g, po, none⟩) n c]
  v3 : vb X (w.heap.size + 1) 3 [.int .i64 z]
  v4 : vb X (w.heap.size + 1 + 1) 41 [.slice none 0 0]
  v5 : vb X (w.heap.size + 1 + 1 + 1) 3 [.int .i64 0]
  bel : Below w.heap.size w X
  no : ∀ i, i < k → ¬ z < tp T i
theorem Lk.on {w : World} {B W H n c g po : Nat} {T : List Int} {z : Int} {O O' : Nat → Prop} {k : Nat} {X Y : World} (h : Lk w B W H n c g po T z O k X) (hB : w.heap.size + 4 ≤ B) (hg : Grw O X Y) (hO : ∀ b, O' b → O b ∨ X.heap.size ≤ b) : Lk w B W H n c g po T z O' k Y := by
  have hb : Below B X Y := hg.bel h.big h.far
  exact ⟨fun b hb => (hO b hb).elim (h.far b) (fun h1 => Nat.le_trans h.big h1), Nat.le_trans h.big hg.size, h.v2.below hb (by omega), h.v3.below hb (by omega), h.v4.below hb (by omega), h.v5.below hb (by omega), h.bel.trans (hb.mono (by omega)), h.no⟩
/-- behind the round that has ended it -/
structure Lx (w : World) (B W H : Nat) (T : List Int) (z : Int) (O : Nat → Prop) (k : Nat) (X : World) : Prop where
  far : ∀ b, O b → B ≤ b
  big : B ≤ X.heap.size
  got : ∃ v l L, vb X (w.heap.size + 1 + 1) 41 [v] ∧ vb X (w.heap.size + 1 + 1 + 1) 3 [.int .i64 0] ∧ Row X B 46 2 v l L ∧ (∀ q, v.ownBlock = some q → ¬ O q) ∧ Otl W H T z 0 L
  bel : Below w.heap.size w X
theorem Lx.on {w : World} {B W H : Nat} {T : List Int} {z : Int} {O O' : Nat → Prop} {k : Nat} {X Y : World} (h : Lx w B W H T z O k X) (hB : w.heap.size + 4 ≤ B) (hg : Grw O X Y) (hO : ∀ b, O' b → O b ∨ X.heap.size ≤ b) : Lx w B W H T z O' k Y := by
  have hb : Below B X Y := hg.bel h.big h.far
  obtain ⟨v, l, L, h4, h5, hr, hn, ho⟩ := h.got
  exact ⟨fun b hb => (hO b hb).elim (h.far b) (fun h1 => Nat.le_trans h.big h1), Nat.le_trans h.big hg.size, ⟨v, l, L, h4.below hb (by omega), h5.below hb (by omega), hr.kept' (fun q hq => hg.block q (hr.lt q hq).2 (hn q hq)), fun q hq hq' => (hO q hq').elim (hn q hq) (fun h1 => by have := (hr.lt q hq).2; omega), ho⟩, h.bel.trans (hb.mono (by omega))⟩
set_option maxRecDepth 100000 in
set_option maxHeartbeats 8000000 in
theorem ctP_good (W H n c g po : Nat) (T : List Int) (z : Int) (w : World) (hO : FOk (W : Int) (H : Int) T) (hn : n = W * H) (hz : 0 ≤ z ∧ z ≤ 23) (hF : Fd w g po n c T) :
    Calls Try.prog 15 #[fldV (W : Int) (H : Int) (some ⟨g, po, none⟩) n c, .int .i64 z] w fun e w' => (∃ (v : Value) (l : Nat) (L : List Int) (E : Int), e = .returned (.tuple #[v, .int .i64 E]) ∧ Row w' w.heap.size 46 2 v l L ∧ Otl W H T z E L) ∧ Below w.heap.size w w' := by
  obtain ⟨_, _, ea, eb, hW1, hW, hH1, hH, _⟩ := hO.nat
  cases Int.natCast_inj.1 ea
  cases Int.natCast_inj.1 eb
  have hfo : fokB (W : Int) (H : Int) T = true := decide_eq_true hO
  have HFO := hide (fun X (hX : Below w.heap.size w X) => fokP_any (W : Int) (H : Int) (some ⟨g, po, none⟩) g po n c T X hF.len (by have := hF.cap; have := hF.top; omega) (hF.bel hX).its)
  rw [hfo] at HFO
  have HBT := hide (fun X => bt_any z 0 23 X)
  have ez : (decide (0 ≤ z) && decide (z ≤ 23)) = true := by simp [hz]
  rw [ez] at HBT
  have HRI := hide (fun X => risM W H n c g po X)
  have HFd := hide (fun X (hX : Below w.heap.size w X) => hF.bel hX)
  have hg := hF.lt
  have hbl : Below w.heap.size w ((((w.alloc (.cells #[.int .i64 (W : Int), .int .i64 (H : Int), .slice (some ⟨g, po, none⟩) n c] 25)).alloc (.cells #[.int .i64 z] 3)).alloc (.cells #[.slice none 0 0] 41)).alloc (.cells #[.int .i64 0] 3)) := ba (ba (ba (ba (Below.refl _ _) _) _) _) _
  have HB0 := hide hbl
  have V2 := hide ((vb_new1 w 25 [.int .i64 (W : Int), .int .i64 (H : Int), .slice (some ⟨g, po, none⟩) n c] (.cells #[.int .i64 z] 3)).bel (ba (ba (Below.refl _ _) (.cells #[.slice none 0 0] 41)) (.cells #[.int .i64 0] 3)))
  have V3 := hide ((vb_new2 w 3 [.int .i64 z] (.cells #[.int .i64 (W : Int), .int .i64 (H : Int), .slice (some ⟨g, po, none⟩) n c] 25)).bel (ba (ba (Below.refl _ _) (.cells #[.slice none 0 0] 41)) (.cells #[.int .i64 0] 3)))
  have V4 := hide ((vb_new ((w.alloc (.cells #[.int .i64 (W : Int), .int .i64 (H : Int), .slice (some ⟨g, po, none⟩) n c] 25)).alloc (.cells #[.int .i64 z] 3)) 41 [.slice none 0 0] (w.heap.size + 1 + 1) (by simp)).bel (ba (Below.refl _ _) (.cells #[.int .i64 0] 3)))
  have V5 := hide (vb_new (((w.alloc (.cells #[.int .i64 (W : Int), .int .i64 (H : Int), .slice (some ⟨g, po, none⟩) n c] 25)).alloc (.cells #[.int .i64 z] 3)).alloc (.cells #[.slice none 0 0] 41)) 3 [.int .i64 0] (w.heap.size + 1 + 1 + 1) (by simp))
  unfold fldV at *
  have HN := hide hn
  have HWY := hide (fun (x y : Nat) X (hX : Fd X g po n c T) hx hy => tpP_any W H n c g po T x y X hW hH hn hX hx hy)
  have HTF := hide (fun (m b1 b2 b3 n₀ x0 y0 K : Nat) (X : World) h1 h2 h3 hgn hn₀ hv1 hv2 hv3 hF hfs hK => tfS m W H n c g po b1 b2 b3 n₀ x0 y0 K T z X hW1 hW hH1 hH hn h1 h2 h3 hgn hn₀ hv1 hv2 hv3 hF hfs hK)
  unfold fldV at *
  clear hF hfo ea eb hO hbl ez hn
  refine (callsIn_wide (n := 0)).1 ?_
  refine callsIn_of_wp_marks Try.func15 rfl trivial ?_ rfl
  simp only [Try.ntmps15, List.size_toArray, List.length_cons, List.length_nil, Nat.reduceAdd, Nat.reduceSub, Array.replicate_succ, Array.replicate_zero, List.push_toArray, List.append_toArray, List.nil_append, List.cons_append]
  gi_wp2
  refine ⟨trivial, rfl, (callsIn_wide.2 (unhide HFO _ (unhide HB0))).mono ?_⟩
  rintro _ W1 ⟨rfl, hb1⟩
  have U2 := hide ((unhide V2).bel hb1)
  have U3 := hide ((unhide V3).bel hb1)
  have U4 := hide ((unhide V4).bel hb1)
  have U5 := hide ((unhide V5).bel hb1)
  have HB1 := hide (bc (unhide HB0) hb1)
  clear hb1 V2 V3 V4 V5 HB0 HFO
  have z0 := (unhide U3).cell (m := 0) rfl
  gi_wp2
  refine ⟨trivial, rfl, (callsIn_wide.2 (unhide HBT _)).mono ?_⟩
  rintro _ Wq ⟨rfl, hq⟩
  rw [hq]
  clear hq
  have k0 := (unhide U2).cell (m := 0) rfl
  have k1 := (unhide U2).cell (m := 1) rfl
  have k2 := (unhide U2).cell (m := 2) rfl
  gi_wp2
  refine ⟨trivial, rfl, (callsIn_wide.2 (unhide HRI _)).mono ?_⟩
  rintro _ Wq ⟨rfl, hq⟩
  rw [hq]
  clear hq
  have hA := (ba (Below.refl W1.heap.size W1) (.cells #[.int .i64 (W : Int), .int .i64 (H : Int), .slice (some ⟨g, po, none⟩) n c] 25))
  have T2 := hide ((unhide U2).bel hA)
  have T3 := hide ((unhide U3).bel hA)
  have T4 := hide ((unhide U4).bel hA)
  have T5 := hide ((unhide U5).bel hA)
  have HB2 := hide (bc (unhide HB1) hA)
  have TR := hide (vb_new W1 25 [.int .i64 (W : Int), .int .i64 (H : Int), .slice (some ⟨g, po, none⟩) n c] W1.heap.size rfl)
  have h5lt := (unhide T5).lt
  have hW1s := (unhide U5).lt
  clear hA U2 U3 U4 U5 HB1 HRI HBT k0 k1 k2 z0
  gi_wp2
  generalize hWL : W1.alloc (.cells #[.int .i64 (W : Int), .int .i64 (H : Int), .slice (some ⟨g, po, none⟩) n c] 25) = WL at *
  have hWs : W1.heap.size < WL.heap.size := by rw [← hWL]; simp
  clear hWL
  obtain ⟨B, hB⟩ : ∃ B, WL.heap.size = B := ⟨_, rfl⟩
  have HBB := hide hB
  have hB4 : w.heap.size + 4 ≤ B := by omega
  refine range_seq (n₀ := B) (N := W * H) rfl (fun h => by cases h) (gf := 86) (lb := #[.pointer (some ⟨W1.heap.size, 0, none⟩)]) rfl trivial (enters_of Try.func86 (by kernel_rfl) rfl) (by omega) (risS 0 W H n c g po W1.heap.size B WL hW1 hW hH (by omega) (by omega) (unhide TR)) (Below.refl _ _) (fun _ => rfl) (Lk w B W H n c g po T z) (Lx w B W H T z) (fun O O' k A B h hg hO => h.on hB4 hg hO) (fun O O' k A B h hg hO => h.on hB4 hg hO)
    ⟨fun _ h => h.elim, by omega, unhide T2, unhide T3, unhide T4, unhide T5, unhide HB2, fun i hi => absurd hi (Nat.not_lt_zero _)⟩
    (fun O k a' X => ∃ b6, vb X b6 46 [.int .i64 ((k % W : Nat) : Int), .int .i64 ((k / W : Nat) : Int)] ∧ ¬ O b6 ∧ B ≤ b6 ∧ a' = ({ tmps := #[.agg #[.int .i64 (W : Int), .int .i64 (H : Int), .slice (some ⟨g, po, none⟩) n c], .int .i64 z, .pointer (some ⟨w.heap.size, 0, none⟩), .pointer (some ⟨w.heap.size + 1, 0, none⟩), .pointer (some ⟨w.heap.size + 1 + 1, 0, none⟩), .pointer (some ⟨w.heap.size + 1 + 1 + 1, 0, none⟩), .pointer (some ⟨b6, 0, none⟩), .bool false, .agg #[.int .i64 (W : Int), .int .i64 (H : Int), .slice (some ⟨g, po, none⟩) n c], .bool true, .bool false, .bool false, .int .i64 z, .bool true, .bool false, .agg #[.int .i64 (W : Int), .int .i64 (H : Int), .slice (some ⟨g, po, none⟩) n c], .func (.func 86) #[] #[.pointer (some ⟨W1.heap.size, 0, none⟩)], .agg #[.int .i64 ((k % W : Nat) : Int), .int .i64 ((k / W : Nat) : Int)], undef, undef, undef, undef, undef, undef, undef, undef, undef, undef], defers := [] } : Act))
    (fun O k a' A B' h hg => by obtain ⟨b6, h1, h2, h3, h4⟩ := h; exact ⟨b6, (hg.block _ h1.lt h2).trans h1, h2, h3, h4⟩) ?assign ?body ?done ?stop
  case assign =>
    intro l O k X K hk hO hi hK
    have HK := hide hK
    have HI := hide hi
    clear hK hi
    unfold ptk
    gi_wp2
    have hA : Below X.heap.size X (X.alloc (.cells #[.int .i64 ((k % W : Nat) : Int), .int .i64 ((k / W : Nat) : Int)] 46)) := ba (Below.refl _ _) _
    exact unhide HK _ _ (Kpt.of_bel hA (unhide HI).big) ((unhide HI).on hB4 (Grw.of_bel hA) (fun b hb => .inl hb)) ⟨X.heap.size, vb_new X 46 _ _ rfl, fun h => by have := (hO _ h).2; omega, (unhide HI).big, rfl⟩
  case body =>
    rintro l O k a' X hk hO hi ⟨b6, h6, hn6, hl6, rfl⟩
    have HI := hide hi
    have H6 := hide h6
    have hWp : 0 < W := by omega
    obtain ⟨x, hx⟩ : ∃ x, k % W = x := ⟨_, rfl⟩
    obtain ⟨y, hy⟩ : ∃ y, k / W = y := ⟨_, rfl⟩
    have hxW : x < W := by rw [← hx]; exact Nat.mod_lt _ hWp
    have hyH : y < H := by rw [← hy]; exact Nat.div_lt_of_lt_mul hk
    have hxy : y * W + x = k := by rw [← hx, ← hy, Nat.mul_comm]; exact Nat.div_add_mod k W
    rw [hx, hy] at H6 ⊢
    have HXY := hide hxy
    have HFx := hide (unhide HFd X hi.bel)
    obtain ⟨t, ht⟩ : ∃ t, tp T k = t := ⟨_, rfl⟩
    have HTT := hide ht
    have HT : Hid (∀ Y, Below X.heap.size X Y → Calls Try.prog 52 #[.agg #[.int .i64 (W : Int), .int .i64 (H : Int), .slice (some ⟨g, po, none⟩) n c], .agg #[.int .i64 (x : Int), .int .i64 (y : Int)]] Y fun e w' => e = .returned (.int .i64 t) ∧ Below Y.heap.size Y w') := hide (fun Y hY => by have h9 := unhide HWY x y Y ((unhide HFx).bel hY) hxW hyH; rw [hxy, ht] at h9; exact h9)
    have k0 := hi.v2.cell (m := 0) rfl
    have k1 := hi.v2.cell (m := 1) rfl
    have k2 := hi.v2.cell (m := 2) rfl
    have z0 := hi.v3.cell (m := 0) rfl
    have p0 := (unhide H6).cell (m := 0) rfl
    have p1 := (unhide H6).cell (m := 1) rfl
    have hmx : Try.prog.follows .mixedOrders = true := by kernel_rfl
    clear hi h6 hx hy hxy ht
    gi_wp2
    gi_region_with_o (refine ⟨trivial, rfl, ?_⟩; refine (CallsIn.inRound l (callsIn_wide.2 (unhide HT _ (by repeat (first | exact Below.refl _ _ | refine Below.drew ?_))))).mono ?_; rintro e w' ⟨rfl, hb⟩; have HBq := hide (show Below X.heap.size X w' from bc (by repeat (first | exact Below.refl _ _ | refine Below.drew ?_)) hb); have zz := keep1 (unhide HBq) z0; clear hb)
    all_goals
      have HIq := hide ((unhide HI).on hB4 (Grw.of_bel (unhide HBq)) (fun b hb => .inl hb))
      have H6q := hide ((unhide H6).bel (unhide HBq))
      have HKq := hide (Kpt.of_bel (O := O) (unhide HBq) (unhide HI).big)
      have hszq := (unhide HBq).size
      clear k0 k1 k2 z0 p0 p1
      by_cases hzt : z < t
      · rw [decide_eq_true hzt]
        have hfst : Fst W H T z x y := ⟨hxW, hyH, by rw [unhide HXY, unhide HTT]; exact hzt, fun u v hu hv hlt => (unhide HI).no _ (by have := unhide HXY; omega)⟩
        obtain ⟨K, hK⟩ := Bck.ex hW hH (Ab_in (W := W) (H := H) (T := T) (z := z)) hfst.ok.1
        have HFS := hide hfst
        have HKK := hide hK
        have k0 := (unhide HIq).v2.cell (m := 0) rfl
        have k1 := (unhide HIq).v2.cell (m := 1) rfl
        have k2 := (unhide HIq).v2.cell (m := 2) rfl
        have p0 := (unhide H6q).cell (m := 0) rfl
        have p1 := (unhide H6q).cell (m := 1) rfl
        have HTM := hide (fun Y => trfM W H n c g po (x : Int) (y : Int) z Y)
        unfold fldV at HTM
        clear hzt hfst hK
        gi_wp2
        refine ⟨trivial, rfl, (CallsIn.inRound l (callsIn_wide.2 (unhide HTM _))).mono ?_⟩
        rintro _ Wq ⟨rfl, hq⟩
        rw [hq]
        clear hq HTM k0 k1 k2 p0 p1 zz
        have hbl : Below w'.heap.size w' (((w'.alloc (.cells #[.int .i64 (W : Int), .int .i64 (H : Int), .slice (some ⟨g, po, none⟩) n c] 25)).alloc (.cells #[.int .i64 (x : Int), .int .i64 (y : Int)] 46)).alloc (.cells #[.int .i64 z] 3)) := ba (ba (ba (Below.refl _ _) _) _) _
        have G2 := ((vb_new1 w' 25 [.int .i64 (W : Int), .int .i64 (H : Int), .slice (some ⟨g, po, none⟩) n c] (.cells #[.int .i64 (x : Int), .int .i64 (y : Int)] 46)).bel (ba (Below.refl _ _) (.cells #[.int .i64 z] 3)))
        have G1 := ((vb_new2 w' 46 [.int .i64 (x : Int), .int .i64 (y : Int)] (.cells #[.int .i64 (W : Int), .int .i64 (H : Int), .slice (some ⟨g, po, none⟩) n c] 25)).bel (ba (Below.refl _ _) (.cells #[.int .i64 z] 3)))
        have G3 := (vb_new ((w'.alloc (.cells #[.int .i64 (W : Int), .int .i64 (H : Int), .slice (some ⟨g, po, none⟩) n c] 25)).alloc (.cells #[.int .i64 (x : Int), .int .i64 (y : Int)] 46)) 3 [.int .i64 z] (w'.heap.size + 1 + 1) (by simp))
        have hsq := unhide HTF 0 (w'.heap.size + 1) w'.heap.size (w'.heap.size + 1 + 1) (w'.heap.size + 1 + 1 + 1) x y K _ (by omega) (by omega) (by omega) (by have := (unhide HFx).lt; omega) (by simp) G1 G2 G3 (((unhide HFx).bel (unhide HBq)).bel hbl) (unhide HFS) (unhide HKK)
        have HCL := hide (clS 88 #[.pointer (some ⟨w'.heap.size + 1, 0, none⟩), .pointer (some ⟨w'.heap.size, 0, none⟩), .pointer (some ⟨w'.heap.size + 1 + 1, 0, none⟩)] (crn (Ab W H T z) ⟨(x : Int), (y : Int), 3⟩ K) (ctn (Ab W H T z) ⟨(x : Int), (y : Int), 3⟩ K) (w'.heap.size + 1 + 1 + 1) _ (Nat.le_trans (ctn_le _ _ K) (unhide HKK).le) (crn_len _ _ K) (by simp) (enters_of Try.func88 (by kernel_rfl) rfl) hsq)
        have HBr := hide hbl
        clear hbl G1 G2 G3 hsq
        gi_wp2
        refine ⟨trivial, rfl, (CallsIn.inRound l (callsIn_wide.2 (unhide HCL))).mono ?_⟩
        rintro _ W7 ⟨v, rfl, hr, hb7⟩
        have HB7 := hide (bc (unhide HBr) hb7)
        have HIr := hide ((unhide HIq).on hB4 (Grw.of_bel (unhide HB7)) (fun b hb => .inl hb))
        have HR7 := hide (hr.mono (show B ≤ _ by have := (unhide HIq).big; have := (unhide HBr).size; omega))
        have HNO : Hid (∀ q, v.ownBlock = some q → ¬ O q) := hide (fun q hq ho => by have h1 := (hr.lt q hq).1; have h2 := (hO q ho).2; have := (unhide HBr).size; omega)
        obtain ⟨u, cp, hv, _⟩ := hr.form
        clear hb7 hr
        subst hv
        have c4 := (unhide HIr).v4.cell (m := 0) rfl
        have f4 := (unhide HIr).v4.frozen
        have c5 := (unhide HIr).v5.cell (m := 0) rfl
        have f5 := (unhide HIr).v5.frozen
        clear HCL HBr
        gi_wp2
        have e45 : w.heap.size + 1 + 1 ≠ w.heap.size + 1 + 1 + 1 := by omega
        refine ⟨fun b hb hbs => ?_, (unhide HIr).far, ?_, ⟨_, _, _, ((unhide HIr).v4.set 0 _).ne e45, (((unhide HIr).v5.ne e45.symm).set 0 _), (unhide HR7).kept' (fun q hq => ?_), unhide HNO, ⟨fun hno => absurd (unhide HFS).ab (hno _ (ix_lt hxW hyH)), fun x' y' K' hF' hB' => ?_⟩⟩, ((unhide HIr).bel.setCell (p := ⟨w.heap.size + 1 + 1, 0, none⟩) (by simp; omega) _).setCell (p := ⟨w.heap.size + 1 + 1 + 1, 0, none⟩) (by simp; omega) _⟩
        · have h1 := (unhide HIr).far b hb
          have m1 : b ≠ w.heap.size + 1 + 1 + 1 := by omega
          have m2 : b ≠ w.heap.size + 1 + 1 := by omega
          exact ((Below.heap_setCell _ _ _ _ m1).trans (Below.heap_setCell _ _ _ _ m2)).trans (((unhide HB7).block b (by omega)).trans ((unhide HBq).block b hbs))
        · have := (unhide HIr).big
          simpa using this
        · have h1 := ((unhide HR7).lt q hq).1
          have m1 : q ≠ w.heap.size + 1 + 1 + 1 := by omega
          have m2 : q ≠ w.heap.size + 1 + 1 := by omega
          exact (Below.heap_setCell _ _ _ _ m1).trans (Below.heap_setCell _ _ _ _ m2)
        · obtain ⟨rfl, rfl⟩ := hF'.uniq (unhide HFS)
          obtain rfl := hB'.uniq (unhide HKK)
          exact ⟨rfl, rfl⟩
      · rw [decide_eq_false hzt]
        have HNZ := hide hzt
        clear hzt
        gi_wp2
        refine ⟨unhide HKq, { unhide HIq with no := fun i hi => ?_ }⟩
        by_cases h9 : i = k
        · rw [h9, unhide HTT]
          have := unhide HNZ
          omega
        · exact (unhide HIq).no i (by omega)
  case done =>
    intro O D X hD hi hK hOD
    have HI := hide hi
    have HK := hide hK
    have c4 := hi.v4.cell (m := 0) rfl
    have f4 := hi.v4.frozen
    have c5 := hi.v5.cell (m := 0) rfl
    have f5 := hi.v5.frozen
    have e45 : w.heap.size + 1 + 1 ≠ w.heap.size + 1 + 1 + 1 := by omega
    have V4 := hide ((hi.v4.set 0 (.slice none 0 0)).ne (o := 0) (x := .int .i64 8) e45)
    have V5 := hide ((hi.v5.ne (o := 0) (x := .slice none 0 0) e45.symm).set 0 (.int .i64 8))
    clear hi hK
    gi_wp2
    have hD4 : D ≠ w.heap.size + 1 + 1 := by omega
    have hD5 : D ≠ w.heap.size + 1 + 1 + 1 := by omega
    have hK9 : ((X.setCell ⟨w.heap.size + 1 + 1, 0, none⟩ (.slice none 0 0)).setCell ⟨w.heap.size + 1 + 1 + 1, 0, none⟩ (.int .i64 8)).heap[D]? = some (.deferred (some [])) := ((Below.heap_setCell _ _ _ _ hD5).trans (Below.heap_setCell _ _ _ _ hD4)).trans (unhide HK)
    refine ⟨by simp, .inl ⟨_, _, rfl, run_takeDeferred hK9, ?_⟩⟩
    have s4 := (vb.cell (show vb (((X.setCell ⟨w.heap.size + 1 + 1, 0, none⟩ (.slice none 0 0)).setCell ⟨w.heap.size + 1 + 1 + 1, 0, none⟩ (.int .i64 8)).putObj D (.deferred none)) (w.heap.size + 1 + 1) 41 [.slice none 0 0] from (World.putObj_heap_other hD4.symm).trans (unhide V4)) (m := 0) rfl)
    have s5 := (vb.cell (show vb (((X.setCell ⟨w.heap.size + 1 + 1, 0, none⟩ (.slice none 0 0)).setCell ⟨w.heap.size + 1 + 1 + 1, 0, none⟩ (.int .i64 8)).putObj D (.deferred none)) (w.heap.size + 1 + 1 + 1) 3 [.int .i64 8] from (World.putObj_heap_other hD5.symm).trans (unhide V5)) (m := 0) rfl)
    refine ⟨.tuple #[.slice none 0 0, .int .i64 8], by simp [results, Try.results15, go_sem, s4, s5], ⟨_, 0, [], 8, rfl, World.ownsRow_nil _ _ _ _, ⟨fun _ => ⟨rfl, rfl⟩, fun x y K hF _ => absurd hF.ab ((unhide HI).no _ (ix_lt hF.hx hF.hy))⟩⟩, ?_⟩
    exact (((unhide HI).bel.setCell (p := ⟨w.heap.size + 1 + 1, 0, none⟩) (by simp; omega) _).setCell (p := ⟨w.heap.size + 1 + 1 + 1, 0, none⟩) (by simp; omega) _).trans ⟨rfl, rfl, rfl, by simp, fun b hb => World.putObj_heap_other (by omega)⟩
  case stop =>
    intro O D k X hD hk hi hK hOD
    obtain ⟨v, l, L, h4, h5, hr, hnO, ho⟩ := hi.got
    have HI := hide hi
    have HK := hide hK
    have H4 := hide h4
    have H5 := hide h5
    have HR := hide hr
    have HNO := hide hnO
    have HO := hide ho
    clear hi hK h4 h5 hr hnO ho
    gi_wp2
    have hD4 : D ≠ w.heap.size + 1 + 1 := by omega
    have hD5 : D ≠ w.heap.size + 1 + 1 + 1 := by omega
    refine ⟨by simp, .inl ⟨_, _, rfl, run_takeDeferred (unhide HK), ?_⟩⟩
    have s4 := (vb.cell (show vb (X.putObj D (.deferred none)) (w.heap.size + 1 + 1) 41 [v] from (World.putObj_heap_other hD4.symm).trans (unhide H4)) (m := 0) rfl)
    have s5 := (vb.cell (show vb (X.putObj D (.deferred none)) (w.heap.size + 1 + 1 + 1) 3 [.int .i64 0] from (World.putObj_heap_other hD5.symm).trans (unhide H5)) (m := 0) rfl)
    refine ⟨.tuple #[v, .int .i64 0], by simp [results, Try.results15, go_sem, s4, s5], ⟨v, l, L, 0, rfl, ((unhide HR).kept' (fun q hq => World.putObj_heap_other (fun e => unhide HNO q hq (by rw [e]; exact hOD)))).mono (by omega), unhide HO⟩, ?_⟩
    exact (unhide HI).bel.trans ⟨rfl, rfl, rfl, by simp, fun b hb => World.putObj_heap_other (by omega)⟩
end Go.Proofs.Ytjhldjojkaphkaa

namespace Go.Proofs.Ytjhldjojkaphkaa
open Go.ChangeShapes Go.WideShapes Go.ChangeAt Go.RowKit Go.Shelf
attribute [local go_sem] Oper.semAt_some
set_option linter.unusedVariables false
set_option linter.unusedSimpArgs false

theorem Mvs.mono {w : World} {B B' m : Nat} {v : Value} {cs : List Value} (h : Mvs w B v m cs) (hb : B' ≤ B) : Mvs w B' v m cs := by
  refine ⟨h.1, ?_⟩
  rcases h.2 with h1 | ⟨g, cap, cur, hv, hB, r⟩
  · exact .inl h1
  · exact .inr ⟨g, cap, cur, hv, by omega, r⟩
theorem Mvs.full {w : World} {B m : Nat} {v : Value} {cs : List Value} (h : Mvs w B v m cs) (hm : m ≠ 0) : ∃ g cap, v = .slice (some ⟨g, 0, none⟩) m cap ∧ B ≤ g ∧ g < w.heap.size := by
  rcases h.2 with ⟨_, h1⟩ | ⟨g, cap, cur, hv, hB, hh, r⟩
  · exact absurd h1 hm
  · exact ⟨g, cap, hv, hB, (Array.getElem?_eq_some_iff.1 hh).1⟩
def lowP (W H r : Nat) (P : List Int) : List Int := byL (fun x y => hi P (cols W H r x y)) W (W * H)
/-- how the program's Zigzag ends -/
def Zend (w' : World) (B : Nat) (ps : List (Nat × Nat × Int)) (v : Value) (E : Int) : Prop :=
  (1 + 4 * ps.length ≤ 2000 ∧ E = 0 ∧ Mvs w' B v (1 + 4 * ps.length) (zcs ps ps.length)) ∨ (2000 < 1 + 4 * ps.length ∧ E = 18 ∧ v = .slice none 0 0)
set_option maxRecDepth 100000 in
set_option maxHeartbeats 8000000 in
theorem zgP_good (W H n c g po c' g' po' r s : Nat) (A P : List Int) (w : World) (hW1 : 1 ≤ W) (hW : W ≤ 24) (hH1 : 1 ≤ H) (hH : H ≤ 24) (hn : n = W * H) (hr : r ≤ 3) (hs1 : 1 ≤ s) (hs : s ≤ 24)
    (hst : stB (W : Int) (H : Int) A (W : Int) (H : Int) P = true) (hF : Fd w g po n c A) (hF' : Fd w g' po' n c' P) (hO : MOk n ⟨A, 0, 0, 0⟩) (hL : ∀ i, 0 ≤ tp (lowP W H r P) i ∧ tp (lowP W H r P) i ≤ 24) :
    Calls Try.prog 9 #[fldV (W : Int) (H : Int) (some ⟨g, po, none⟩) n c, fldV (W : Int) (H : Int) (some ⟨g', po', none⟩) n c', .int .i64 (r : Int), .int .i64 (s : Int)] w fun e w' => (∃ v E, e = .returned (.tuple #[v, .int .i64 E]) ∧ Zend w' w.heap.size (zzL W H r s A (lowP W H r P)) v E) ∧ Below w.heap.size w w' := by
  have hnb : n ≤ 576 := by rw [hn]; exact Nat.mul_le_mul hW hH
  have hbl : Below w.heap.size w ((((w.alloc (.cells #[.int .i64 (W : Int), .int .i64 (H : Int), .slice (some ⟨g, po, none⟩) n c] 25)).alloc (.cells #[.int .i64 (W : Int), .int .i64 (H : Int), .slice (some ⟨g', po', none⟩) n c'] 25)).alloc (.cells #[.slice none 0 0] 29)).alloc (.cells #[.int .i64 0] 3)) := ba (ba (ba (ba (Below.refl _ _) _) _) _) _
  have HB0 := hide hbl
  have V4 := hide ((vb_new1 w 25 [.int .i64 (W : Int), .int .i64 (H : Int), .slice (some ⟨g, po, none⟩) n c] (.cells #[.int .i64 (W : Int), .int .i64 (H : Int), .slice (some ⟨g', po', none⟩) n c'] 25)).bel (ba (ba (Below.refl _ _) (.cells #[.slice none 0 0] 29)) (.cells #[.int .i64 0] 3)))
  have V5 := hide ((vb_new2 w 25 [.int .i64 (W : Int), .int .i64 (H : Int), .slice (some ⟨g', po', none⟩) n c'] (.cells #[.int .i64 (W : Int), .int .i64 (H : Int), .slice (some ⟨g, po, none⟩) n c] 25)).bel (ba (ba (Below.refl _ _) (.cells #[.slice none 0 0] 29)) (.cells #[.int .i64 0] 3)))
  have V8 := hide ((vb_new ((w.alloc (.cells #[.int .i64 (W : Int), .int .i64 (H : Int), .slice (some ⟨g, po, none⟩) n c] 25)).alloc (.cells #[.int .i64 (W : Int), .int .i64 (H : Int), .slice (some ⟨g', po', none⟩) n c'] 25)) 29 [.slice none 0 0] (w.heap.size + 1 + 1) (by simp)).bel (ba (Below.refl _ _) (.cells #[.int .i64 0] 3)))
  have V9 := hide (vb_new (((w.alloc (.cells #[.int .i64 (W : Int), .int .i64 (H : Int), .slice (some ⟨g, po, none⟩) n c] 25)).alloc (.cells #[.int .i64 (W : Int), .int .i64 (H : Int), .slice (some ⟨g', po', none⟩) n c'] 25)).alloc (.cells #[.slice none 0 0] 29)) 3 [.int .i64 0] (w.heap.size + 1 + 1 + 1) (by simp))
  have HST := hide (fun X (hX : Below w.heap.size w X) => stP_any (W : Int) (H : Int) (some ⟨g, po, none⟩) g po n c A (W : Int) (H : Int) (some ⟨g', po', none⟩) g' po' n c' P X hF.len (by omega) (hF.bel hX).its hF'.len (by omega) (hF'.bel hX).its)
  rw [hst] at HST
  have HRT := hide (fun X => rtP_any (r : Int) X)
  rw [show (decide (0 ≤ (r : Int)) && decide ((r : Int) ≤ 3)) = true by simp; omega] at HRT
  have HBT := hide (fun X => bt_any (s : Int) 1 24 X)
  rw [show (decide (1 ≤ (s : Int)) && decide ((s : Int) ≤ 24)) = true by simp; omega] at HBT
  have HLW := hide (fun X (hX : Below w.heap.size w X) => bt48_any W H r g' po' n c' P X hW1 hW hH1 hH hr hn (hF'.bel hX))
  have HZX := hide (fun (g2 c2 : Nat) X (hX : Below w.heap.size w X) (hF2 : Fd X g2 0 n c2 (lowP W H r P)) => zgX W H n c g po r s g2 c2 A (lowP W H r P) X hW1 hW hH1 hH hr hs1 hs hn (hF.bel hX) hO hF2 hL)
  obtain ⟨ps, hps⟩ : ∃ ps, zzL W H r s A (lowP W H r P) = ps := ⟨_, rfl⟩
  rw [hps] at HZX ⊢
  clear hps
  unfold fldV at *
  have HN := hide hn
  have hg := hF.lt
  have hg' := hF'.lt
  clear hF hF' hst hbl hn hL hO
  refine (callsIn_wide (n := 0)).1 ?_
  refine callsIn_of_wp_marks Try.func9 rfl trivial ?_ rfl
  simp only [Try.ntmps9, List.size_toArray, List.length_cons, List.length_nil, Nat.reduceAdd, Nat.reduceSub, Array.replicate_succ, Array.replicate_zero, List.push_toArray, List.append_toArray, List.nil_append, List.cons_append]
  have a0 := (unhide V4).cell (m := 0) rfl
  have a1 := (unhide V4).cell (m := 1) rfl
  have a2 := (unhide V4).cell (m := 2) rfl
  have e0 := (unhide V5).cell (m := 0) rfl
  have e1 := (unhide V5).cell (m := 1) rfl
  have e2 := (unhide V5).cell (m := 2) rfl
  gi_wp2
  refine ⟨trivial, rfl, (callsIn_wide.2 (unhide HST _ (unhide HB0))).mono ?_⟩
  rintro _ W1 ⟨rfl, hb1⟩
  have U4 := hide ((unhide V4).bel hb1)
  have U5 := hide ((unhide V5).bel hb1)
  have U8 := hide ((unhide V8).bel hb1)
  have U9 := hide ((unhide V9).bel hb1)
  have HB1 := hide (bc (unhide HB0) hb1)
  clear hb1 V4 V5 V8 V9 HB0 HST a0 a1 a2 e0 e1 e2
  gi_wp2
  refine ⟨trivial, rfl, (callsIn_wide.2 (unhide HRT _)).mono ?_⟩
  rintro _ Wq ⟨rfl, hq⟩
  rw [hq]
  clear hq
  gi_wp2
  refine ⟨trivial, rfl, (callsIn_wide.2 (unhide HBT _)).mono ?_⟩
  rintro _ Wr ⟨rfl, hq⟩
  rw [hq]
  clear hq
  have hA3 : Below W1.heap.size W1 (((W1.alloc (.cells #[.bool true, .int .i64 0, .int .i64 0, .int .i64 24] 65)).alloc (.cells #[.slice (some ⟨W1.heap.size, 0, none⟩) 1 1] 29)).alloc (.cells #[.int .i64 0] 3)) := ba (ba (ba (Below.refl _ _) _) _) _
  have T4 := hide ((unhide U4).bel hA3)
  have T5 := hide ((unhide U5).bel hA3)
  have T8 := hide ((unhide U8).bel hA3)
  have T9 := hide ((unhide U9).bel hA3)
  have HB3 := hide (bc (unhide HB1) hA3)
  have T10 := hide ((vb_new2 W1 29 [.slice (some ⟨W1.heap.size, 0, none⟩) 1 1] (.cells #[.bool true, .int .i64 0, .int .i64 0, .int .i64 24] 65)).bel (ba (Below.refl _ _) (.cells #[.int .i64 0] 3)))
  have T11 := hide (vb_new ((W1.alloc (.cells #[.bool true, .int .i64 0, .int .i64 0, .int .i64 24] 65)).alloc (.cells #[.slice (some ⟨W1.heap.size, 0, none⟩) 1 1] 29)) 3 [.int .i64 0] (W1.heap.size + 1 + 1) (by simp))
  have TM := hide ((vb_new1 W1 65 (mvC true 0 0 24) (.cells #[.slice (some ⟨W1.heap.size, 0, none⟩) 1 1] 29)).bel (ba (Below.refl _ _) (.cells #[.int .i64 0] 3)))
  have hW3 : (((W1.alloc (.cells #[.bool true, .int .i64 0, .int .i64 0, .int .i64 24] 65)).alloc (.cells #[.slice (some ⟨W1.heap.size, 0, none⟩) 1 1] 29)).alloc (.cells #[.int .i64 0] 3)).heap.size = W1.heap.size + 3 := by simp
  have hW1s := (unhide U9).lt
  have e0 := (unhide T5).cell (m := 0) rfl
  have e1 := (unhide T5).cell (m := 1) rfl
  have e2 := (unhide T5).cell (m := 2) rfl
  clear hA3 U4 U5 U8 U9 HB1 HRT HBT
  gi_wp2
  refine ⟨trivial, rfl, (callsIn_wide.2 (unhide HLW _ (unhide HB3))).mono ?_⟩
  rintro _ W4 ⟨⟨q2, c2, rfl, hrow⟩, hb4⟩
  have Q4 := hide ((unhide T4).bel hb4)
  have Q8 := hide ((unhide T8).bel hb4)
  have Q9 := hide ((unhide T9).bel hb4)
  have Q10 := hide ((unhide T10).bel hb4)
  have Q11 := hide ((unhide T11).bel hb4)
  have QM := hide ((unhide TM).bel hb4)
  have HB4 := hide (bc (unhide HB3) hb4)
  have HROW := hide hrow
  have hW4 := hb4.size
  rw [hW3] at hW4
  have hq2 := hrow.ge
  rw [hW3] at hq2
  clear hb4 hrow e0 e1 e2 T4 T5 T8 T9 T10 T11 TM HB3 HLW hW3
  gi_wp2
  have hA5 : Below W4.heap.size W4 (W4.alloc (.cells #[.int .i64 (W : Int), .int .i64 (H : Int), .slice (some ⟨q2, 0, none⟩) n c2] 25)) := ba (Below.refl _ _) _
  have H4 := hide ((unhide Q4).bel hA5)
  have H12 := hide (vb_new W4 25 [.int .i64 (W : Int), .int .i64 (H : Int), .slice (some ⟨q2, 0, none⟩) n c2] W4.heap.size rfl)
  have HA5 := hide hA5
  clear hA5
  refine wpIn_mono (zg5 H4 H12 ?hq) (Only.to (fun _ _ h => h))
  intro X hX
  have HX := hide hX
  clear hX
  gi_wp2
  have hXb := bc (unhide HA5) (unhide HX)
  have hZ : Below X.heap.size X (((((X.alloc (.cells #[.int .i64 (W : Int), .int .i64 (H : Int), .slice (some ⟨q2, 0, none⟩) n c2] 25)).alloc (.cells #[.int .i64 (s : Int)] 3)).alloc (.cells #[.int .i64 (W : Int), .int .i64 (H : Int), .slice (some ⟨g, po, none⟩) n c] 25)).alloc (.cells #[.int .i64 (r : Int)] 3)).alloc (.cells #[.func (.func 74) #[] #[.pointer (some ⟨X.heap.size + 1, 0, none⟩), .pointer (some ⟨X.heap.size, 0, none⟩)]] 69)) := ba (ba (ba (ba (ba (Below.refl _ _) _) _) _) _) _
  have hXZ := bc hXb hZ
  have hFX : Fd X q2 0 n c2 (lowP W H r P) := ((unhide HROW).fd).bel hXb
  have HSQ := hide (unhide HZX q2 c2 X (bc (unhide HB4) hXb) hFX)
  have HBZ := hide (bc (unhide HB4) hXZ)
  have Z8 := hide ((unhide Q8).bel hXZ)
  have Z9 := hide ((unhide Q9).bel hXZ)
  have Z10 := hide ((unhide Q10).bel hXZ)
  have Z11 := hide ((unhide Q11).bel hXZ)
  have ZM := hide ((unhide QM).bel hXZ)
  have hXs := hXb.size
  have hq2l := hFX.lt
  have hZs : (((((X.alloc (.cells #[.int .i64 (W : Int), .int .i64 (H : Int), .slice (some ⟨q2, 0, none⟩) n c2] 25)).alloc (.cells #[.int .i64 (s : Int)] 3)).alloc (.cells #[.int .i64 (W : Int), .int .i64 (H : Int), .slice (some ⟨g, po, none⟩) n c] 25)).alloc (.cells #[.int .i64 (r : Int)] 3)).alloc (.cells #[.func (.func 74) #[] #[.pointer (some ⟨X.heap.size + 1, 0, none⟩), .pointer (some ⟨X.heap.size, 0, none⟩)]] 69)).heap.size = X.heap.size + 5 := by simp
  have hW4l : W4.heap.size + 1 ≤ X.heap.size := by have := (unhide HX).size; simp at this; omega
  clear hXb hZ hXZ hFX HX HA5 H4 H12 Q4 Q8 Q9 Q10 Q11 QM HB4 HROW HZX
  generalize ((((X.alloc (.cells #[.int .i64 (W : Int), .int .i64 (H : Int), .slice (some ⟨q2, 0, none⟩) n c2] 25)).alloc (.cells #[.int .i64 (s : Int)] 3)).alloc (.cells #[.int .i64 (W : Int), .int .i64 (H : Int), .slice (some ⟨g, po, none⟩) n c] 25)).alloc (.cells #[.int .i64 (r : Int)] 3)).alloc (.cells #[.func (.func 74) #[] #[.pointer (some ⟨X.heap.size + 1, 0, none⟩), .pointer (some ⟨X.heap.size, 0, none⟩)]] 69) = WL at *
  obtain ⟨B, hB⟩ : ∃ B, WL.heap.size = B := ⟨_, rfl⟩
  obtain ⟨iP, hi1, hp0, hp1, hp2⟩ := info_parts mv65
  have HM0 : Hid (Mvs WL (w.heap.size + 4) (.slice (some ⟨W1.heap.size, 0, none⟩) 1 1) (1 + 4 * 0) (zcs ps 0)) := hide ⟨rfl, .inr ⟨W1.heap.size, 1, _, rfl, by omega, unhide ZM, Nat.le_refl _, by decide, rfl, rfl⟩⟩
  refine range_x (R := fun q => (q = X.heap.size ∨ q = X.heap.size + 1 ∨ q = q2) ∨ q = X.heap.size + 3) (N := ps.length) (gf := 72) (lb := #[.pointer (some ⟨X.heap.size + 2, 0, none⟩), .pointer (some ⟨X.heap.size + 4, 0, none⟩), .pointer (some ⟨X.heap.size + 3, 0, none⟩)]) rfl (enters_of Try.func72 (by kernel_rfl) rfl) (fun b hb => by omega) (unhide HSQ) (Below.refl _ _) (fun _ => rfl)
    (Zl w B (W1.heap.size + 1) (W1.heap.size + 1 + 1) (w.heap.size + 1 + 1) (w.heap.size + 1 + 1 + 1) (fun q => ((q = X.heap.size ∨ q = X.heap.size + 1 ∨ q = q2) ∨ q = X.heap.size + 3) ∨ q = W1.heap.size + 1 ∨ q = W1.heap.size + 1 + 1 ∨ q = w.heap.size + 1 + 1 ∨ q = w.heap.size + 1 + 1 + 1) ps) (fun O k Y => (∀ b, O b → B ≤ b) ∧ vb Y (w.heap.size + 1 + 1) 29 [.slice none 0 0] ∧ vb Y (w.heap.size + 1 + 1 + 1) 3 [.int .i64 18] ∧ 2000 < 1 + 4 * (k + 1) ∧ Below w.heap.size w Y ∧ B ≤ Y.heap.size)
    (fun O O' k A' C h hg hO => h.on (by omega) (by omega) (by omega) (by omega) (by omega) hg hO) ?hIx
    ⟨fun _ h => h.elim, by omega, ⟨_, unhide Z10, unhide HM0, fun q hq => ⟨fun h => h, fun h => by simp only [Value.ownBlock, Option.some.injEq] at hq; omega⟩⟩, unhide Z11, unhide Z8, unhide Z9, by omega, unhide HBZ⟩
    (fun O k a' Y => ∃ (x y : Nat) (z : Int), ps[k]? = some (x, y, z) ∧ ∃ b13, vb Y b13 73 [.int .i64 (x : Int), .int .i64 (y : Int), .int .i64 z] ∧ ¬ O b13 ∧ B ≤ b13 ∧ (∀ b, O b → B ≤ b) ∧ (∀ v, vb Y (W1.heap.size + 1) 29 [v] → v.ownBlock ≠ some b13) ∧ a' = ({ tmps := #[.agg #[.int .i64 (W : Int), .int .i64 (H : Int), .slice (some ⟨g, po, none⟩) n c], .agg #[.int .i64 (W : Int), .int .i64 (H : Int), .slice (some ⟨g', po', none⟩) n c'], .int .i64 (r : Int), .int .i64 (s : Int), .pointer (some ⟨w.heap.size, 0, none⟩), .pointer (some ⟨w.heap.size + 1, 0, none⟩), undef, undef, .pointer (some ⟨w.heap.size + 1 + 1, 0, none⟩), .pointer (some ⟨w.heap.size + 1 + 1 + 1, 0, none⟩), .pointer (some ⟨W1.heap.size + 1, 0, none⟩), .pointer (some ⟨W1.heap.size + 1 + 1, 0, none⟩), .pointer (some ⟨W4.heap.size, 0, none⟩), .pointer (some ⟨b13, 0, none⟩), undef, .agg #[.int .i64 (W : Int), .int .i64 (H : Int), .slice (some ⟨g, po, none⟩) n c], .agg #[.int .i64 (W : Int), .int .i64 (H : Int), .slice (some ⟨g', po', none⟩) n c'], .bool true, .bool false, .bool false, .int .i64 (r : Int), .bool true, .bool false, .bool false, .bool false, .int .i64 (s : Int), .bool true, .bool false, .bool false, .agg #[.bool true, .int .i64 0, .int .i64 0, .int .i64 24], .slice (some ⟨W1.heap.size, 0, none⟩) 1 1, .agg #[.int .i64 (W : Int), .int .i64 (H : Int), .slice (some ⟨g', po', none⟩) n c'], .int .i64 (r : Int), .agg #[.int .i64 (W : Int), .int .i64 (H : Int), .slice (some ⟨q2, 0, none⟩) n c2], .agg #[.int .i64 (W : Int), .int .i64 (H : Int), .slice (some ⟨g, po, none⟩) n c], .int .i64 (r : Int), .agg #[.int .i64 (W : Int), .int .i64 (H : Int), .slice (some ⟨q2, 0, none⟩) n c2], .int .i64 (s : Int), .func (.func 74) #[] #[.pointer (some ⟨X.heap.size + 1, 0, none⟩), .pointer (some ⟨X.heap.size, 0, none⟩)], .func (.func 72) #[] #[.pointer (some ⟨X.heap.size + 2, 0, none⟩), .pointer (some ⟨X.heap.size + 4, 0, none⟩), .pointer (some ⟨X.heap.size + 3, 0, none⟩)], .agg #[.int .i64 (x : Int), .int .i64 (y : Int), .int .i64 z], undef, undef, undef, undef, undef, undef, undef, undef, undef, undef, undef, undef, undef, undef, undef, undef, undef, undef, undef, undef, undef, undef, undef, undef, undef, undef, undef], defers := [] } : Act))
    ?hAx ?assign ?body ?done ?stop
  case hIx =>
    rintro O O' k C D ⟨h1, h2, h3, h4, h5, h6⟩ hg hO
    have hbel : Below B C D := hg.bel h6 h1
    exact ⟨fun b hb => (hO b hb).elim (h1 b) (fun h => by omega), h2.below hbel (by omega), h3.below hbel (by omega), h4, h5.trans (hbel.mono (by omega)), Nat.le_trans h6 hg.size⟩
  case hAx =>
    rintro O k a' C D ⟨x, y, z, hp, b13, h1, h2, h3, hf, hv, h5⟩ hg
    have h1l := h1.lt
    exact ⟨x, y, z, hp, b13, (hg.block _ h1.lt h2).trans h1, h2, h3, hf, fun v hvb => hv v ((hg.block _ (by omega) (fun ho => by have := hf _ ho; omega)).symm.trans hvb), h5⟩
  case assign =>
    intro l' O k Y K hk hO hi hK
    have HK := hide hK
    have HI := hide hi
    clear hK hi
    obtain ⟨⟨x, y, z⟩, hp⟩ : ∃ p, ps[k]? = some p := ⟨_, List.getElem?_eq_getElem hk⟩
    have HP := hide hp
    rw [plc_at hp]
    unfold plV
    clear hp
    gi_wp2
    have hA : Below Y.heap.size Y (Y.alloc (.cells #[.int .i64 (x : Int), .int .i64 (y : Int), .int .i64 z] 73)) := ba (Below.refl _ _) _
    have h := unhide HI
    exact unhide HK _ _ (Kpx.of_bel hA) (h.on (by omega) (by omega) (by omega) (by omega) (by omega) (Grw.of_bel hA) (fun b hb => .inl hb)) ⟨x, y, z, unhide HP, Y.heap.size, vb_new Y 73 _ _ rfl, fun hh => by have := (hO _ hh).2; omega, h.big, h.far, fun v hvb he => by
      obtain ⟨v0, hv0, hr0, _⟩ := h.row
      have e9 := Option.some.inj (hvb.symm.trans (hv0.bel hA))
      simp only [Obj.cells.injEq, Array.mk.injEq, List.cons.injEq, and_true] at e9
      rw [e9] at he
      exact absurd (hr0.lt _ he).2 (Nat.lt_irrefl _), rfl⟩
  case body =>
    rintro l' O k a' Y _ hOl hk hO hi ⟨x, y, z, hp, b13, h13, hn13, hl13, _, hown, rfl⟩
    obtain ⟨v, hv, hr, hnO⟩ := hi.row
    obtain ⟨gg, cp, rfl, hgg1, hgg2⟩ := hr.full (by omega)
    obtain ⟨hzc, hzo⟩ := zcs_succ hp
    have HI := hide hi
    have HNO := hide hnO
    have H13 := hide h13
    have HFEW := hide hi.few
    have h11 := hi.v11
    obtain ⟨oy, hoy⟩ : ∃ oy, zoy ps k = oy := ⟨_, rfl⟩
    rw [hoy] at hzc h11
    obtain ⟨m, hm⟩ : ∃ m, 1 + 4 * k = m := ⟨_, rfl⟩
    have hmk : m ≤ 2000 := by have := hi.few; omega
    rw [hm] at hr hv HNO
    have HHO := hide hO
    have HM := hide hm
    have HZC := hide hzc
    have HZO := hide hzo
    have H11 := hide h11
    have hYB := hi.big
    have hA14 : Below Y.heap.size Y (Y.alloc (.cells #[.bool true, .int .i64 (x : Int), .int .i64 (y : Int), .int .i64 24] 65)) := ba (Below.refl _ _) _
    have hA15 : Below Y.heap.size Y ((Y.alloc (.cells #[.bool true, .int .i64 (x : Int), .int .i64 (y : Int), .int .i64 24] 65)).alloc (.cells #[.bool true, .int .i64 (x : Int), .int .i64 oy, .int .i64 24, .bool true, .int .i64 (x : Int), .int .i64 (y : Int), .int .i64 24, .bool false, .int .i64 (x : Int), .int .i64 (y : Int), .int .i64 z, .bool true, .int .i64 (x : Int), .int .i64 (y : Int), .int .i64 24] 65)) := ba hA14 _
    have HR14 := hide (hr.kept (w' := (Y.alloc (.cells #[.bool true, .int .i64 (x : Int), .int .i64 (y : Int), .int .i64 24] 65))) (fun q hq => by simp only [Value.ownBlock, Option.some.injEq] at hq; subst hq; exact hA14.block _ hgg2))
    have HA15 := hide hA15
    have x0 := h13.cell (m := 0) rfl
    have x1 := h13.cell (m := 1) rfl
    have y0 := (h13.bel hA14).cell (m := 0) rfl
    have y1 := (h13.bel hA14).cell (m := 1) rfl
    have y2 := (h13.bel hA14).cell (m := 2) rfl
    have c10 := (hv.bel hA14).cell (m := 0) rfl
    have c11 := (h11.bel hA14).cell (m := 0) rfl
    have d14 := vb_new Y 65 [.bool true, .int .i64 (x : Int), .int .i64 (y : Int), .int .i64 24] Y.heap.size rfl
    have d0 := d14.cell (m := 0) rfl
    have d1 := d14.cell (m := 1) rfl
    have d2 := d14.cell (m := 2) rfl
    have d3 := d14.cell (m := 3) rfl
    have n2 := (hnO gg rfl).2
    have gn10 : W1.heap.size + 1 ≠ gg := fun e => n2 (.inr (.inl e.symm))
    have gn11 : W1.heap.size + 1 + 1 ≠ gg := fun e => n2 (.inr (.inr (.inl e.symm)))
    have gn8 : w.heap.size + 1 + 1 ≠ gg := fun e => n2 (.inr (.inr (.inr (.inl e.symm))))
    have gn9 : w.heap.size + 1 + 1 + 1 ≠ gg := fun e => n2 (.inr (.inr (.inr (.inr e.symm))))
    have gn13 : b13 ≠ gg := fun e => hown _ hv (by rw [e]; rfl)
    have HBW : Hid (∀ (b t : Nat) (vs : List Value) wz, vb Y b t vs → b ≠ gg → ((Y.alloc (.cells #[.bool true, .int .i64 (x : Int), .int .i64 (y : Int), .int .i64 24] 65)).alloc (.cells #[.bool true, .int .i64 (x : Int), .int .i64 oy, .int .i64 24, .bool true, .int .i64 (x : Int), .int .i64 (y : Int), .int .i64 24, .bool false, .int .i64 (x : Int), .int .i64 (y : Int), .int .i64 z, .bool true, .int .i64 (x : Int), .int .i64 (y : Int), .int .i64 24] 65)).grownBy wz (Value.ownBlock (.slice (some ⟨gg, 0, none⟩) m cp)) → vb wz b t vs) := hide (fun b t vs wz hvb hne hg => (hg.block _ (hvb.bel hA15).lt (fun e => by simp only [Value.ownBlock, Option.some.injEq] at e; exact hne e)).trans (hvb.bel hA15))
    have HV10 := hide hv
    have HV8 := hide hi.v8
    have HV9 := hide hi.v9
    clear hi hv hr hnO h13 h11 hzc hzo hoy hp hm hO hA14 hA15 d14 n2 hown
    have n1110 : W1.heap.size + 1 + 1 ≠ W1.heap.size + 1 := by omega
    have n810 : w.heap.size + 1 + 1 ≠ W1.heap.size + 1 := by omega
    have n910 : w.heap.size + 1 + 1 + 1 ≠ W1.heap.size + 1 := by omega
    have n1310 : b13 ≠ W1.heap.size + 1 := by omega
    by_cases hbm : 2000 < m + 4
    · have t1 : decide ((2000 : Int) < ((m + 4 : Nat) : Int)) = true := decide_eq_true (by omega)
      have t2 : decide ((2000 : Int) < (m : Int) + 4) = true := decide_eq_true (by omega)
      gi_wp2_with (gi_at_builtin; refine listIn_append_new _ rfl _ _ 29 rfl (w.heap.size + 4) 65 iP _ 4 32 Try.underlying29 hi1 hp0 hp1 hp2 rfl (by decide) _ _ _ rfl (World.ownsRow.alloc (unhide HR14) _) _ 4 4 (mv4 (x : Int) oy (y : Int) z) rfl rfl (by first | exact news_cells _ _ rfl | exact news_cells _ _ (by simp) | exact news_drew _ _ (by simp)) (mv4_one _ _ _ _) (by unfold maxLen; omega) (by omega) (by simp; omega) ?_; intro v' wz hown' hgrow hnew; obtain ⟨g', cap', rfl⟩ := ownsRow_succ hown'; have HGR := hide hgrow; have HOW := hide hown'; have HNW := hide hnew; have B10 := hide (unhide HBW _ _ _ wz (unhide HV10) gn10 hgrow); have B11 := hide ((unhide HBW _ _ _ wz (unhide H11) gn11 hgrow).ne (o := 0) (x := (.slice (some ⟨g', 0, none⟩) (m + 4) cap')) n1110); have B8 := hide ((unhide HBW _ _ _ wz (unhide HV8) gn8 hgrow).ne (o := 0) (x := (.slice (some ⟨g', 0, none⟩) (m + 4) cap')) n810); have B9 := hide ((unhide HBW _ _ _ wz (unhide HV9) gn9 hgrow).ne (o := 0) (x := (.slice (some ⟨g', 0, none⟩) (m + 4) cap')) n910); have B13 := hide ((unhide HBW _ _ _ wz (unhide H13) gn13 hgrow).ne (o := 0) (x := (.slice (some ⟨g', 0, none⟩) (m + 4) cap')) n1310); have cz := (unhide B10).cell (m := 0) rfl; have fz := (unhide B10).frozen; have cs10 := ((unhide B10).set 0 (.slice (some ⟨g', 0, none⟩) (m + 4) cap')).cell (m := 0) rfl; have q11 := (unhide B11).cell (m := 0) rfl; have f11 := (unhide B11).frozen; have q8 := (unhide B8).cell (m := 0) rfl; have f8 := (unhide B8).frozen; have q9 := (unhide B9).cell (m := 0) rfl; have f9 := (unhide B9).frozen; have q13 := (unhide B13).cell (m := 1) rfl; clear hown' hgrow hnew)
      have hgr : ((Y.alloc (.cells #[.bool true, .int .i64 (x : Int), .int .i64 (y : Int), .int .i64 24] 65)).alloc (.cells #[.bool true, .int .i64 (x : Int), .int .i64 oy, .int .i64 24, .bool true, .int .i64 (x : Int), .int .i64 (y : Int), .int .i64 24, .bool false, .int .i64 (x : Int), .int .i64 (y : Int), .int .i64 z, .bool true, .int .i64 (x : Int), .int .i64 (y : Int), .int .i64 24] 65)).grownBy wz (some gg) := unhide HGR
      have how : Mvs wz (w.heap.size + 4) (.slice (some ⟨g', 0, none⟩) (m + 4) cap') (m + 4) (zcs ps (k + 1)) := by unfold Mvs; rw [unhide HZC]; exact unhide HOW
      have hwzl : g' < wz.heap.size := (how.lt g' rfl).2
      have hYwz : Below w.heap.size Y wz := ((unhide HA15).mono (by omega)).grown hgr (by simp; omega) (fun j hj => by have := Option.some.inj hj; omega)
      have hkeep : ∀ b, b < Y.heap.size → b ≠ gg → wz.heap[b]? = Y.heap[b]? := fun b hb hne => (hgr.block b (by have := (unhide HA15).size; omega) (fun e => hne (Option.some.inj e))).trans ((unhide HA15).block b hb)
      have hOgg : ∀ b, O b → b ≠ gg := fun b hb e => (unhide HNO gg rfl).1 (by rw [← e]; exact hb)
      have hOB : ∀ b, O b → B ≤ b := (unhide HI).far
      have hYz : Y.heap.size ≤ wz.heap.size := Nat.le_trans (unhide HA15).size hgr.size
      have e89 : w.heap.size + 1 + 1 ≠ w.heap.size + 1 + 1 + 1 := by omega
      refine ⟨fun b hb hbl => ?_, hOB, ((unhide B8).set 0 _).ne e89, ((unhide B9).ne e89.symm).set 0 _, by have := unhide HM; omega, ((((unhide HI).bel.trans hYwz).setCell (p := ⟨W1.heap.size + 1, 0, none⟩) (by simp; omega) _).setCell (p := ⟨w.heap.size + 1 + 1, 0, none⟩) (by simp; omega) _).setCell (p := ⟨w.heap.size + 1 + 1 + 1, 0, none⟩) (by simp; omega) _, by simp; omega⟩
      have h1 := hOB b hb
      have m1 : b ≠ w.heap.size + 1 + 1 + 1 := by omega
      have m2 : b ≠ w.heap.size + 1 + 1 := by omega
      have m3 : b ≠ W1.heap.size + 1 := by omega
      exact (Below.heap_setCell _ _ _ _ m1).trans ((Below.heap_setCell _ _ _ _ m2).trans ((Below.heap_setCell _ _ _ _ m3).trans (hkeep b hbl (hOgg b hb))))
    · have t1 : decide ((2000 : Int) < ((m + 4 : Nat) : Int)) = false := decide_eq_false (by omega)
      have t2 : decide ((2000 : Int) < (m : Int) + 4) = false := decide_eq_false (by omega)
      gi_wp2_with (gi_at_builtin; refine listIn_append_new _ rfl _ _ 29 rfl (w.heap.size + 4) 65 iP _ 4 32 Try.underlying29 hi1 hp0 hp1 hp2 rfl (by decide) _ _ _ rfl (World.ownsRow.alloc (unhide HR14) _) _ 4 4 (mv4 (x : Int) oy (y : Int) z) rfl rfl (by first | exact news_cells _ _ rfl | exact news_cells _ _ (by simp) | exact news_drew _ _ (by simp)) (mv4_one _ _ _ _) (by unfold maxLen; omega) (by omega) (by simp; omega) ?_; intro v' wz hown' hgrow hnew; obtain ⟨g', cap', rfl⟩ := ownsRow_succ hown'; have HGR := hide hgrow; have HOW := hide hown'; have HNW := hide hnew; have B10 := hide (unhide HBW _ _ _ wz (unhide HV10) gn10 hgrow); have B11 := hide ((unhide HBW _ _ _ wz (unhide H11) gn11 hgrow).ne (o := 0) (x := (.slice (some ⟨g', 0, none⟩) (m + 4) cap')) n1110); have B8 := hide ((unhide HBW _ _ _ wz (unhide HV8) gn8 hgrow).ne (o := 0) (x := (.slice (some ⟨g', 0, none⟩) (m + 4) cap')) n810); have B9 := hide ((unhide HBW _ _ _ wz (unhide HV9) gn9 hgrow).ne (o := 0) (x := (.slice (some ⟨g', 0, none⟩) (m + 4) cap')) n910); have B13 := hide ((unhide HBW _ _ _ wz (unhide H13) gn13 hgrow).ne (o := 0) (x := (.slice (some ⟨g', 0, none⟩) (m + 4) cap')) n1310); have cz := (unhide B10).cell (m := 0) rfl; have fz := (unhide B10).frozen; have cs10 := ((unhide B10).set 0 (.slice (some ⟨g', 0, none⟩) (m + 4) cap')).cell (m := 0) rfl; have q11 := (unhide B11).cell (m := 0) rfl; have f11 := (unhide B11).frozen; have q8 := (unhide B8).cell (m := 0) rfl; have f8 := (unhide B8).frozen; have q9 := (unhide B9).cell (m := 0) rfl; have f9 := (unhide B9).frozen; have q13 := (unhide B13).cell (m := 1) rfl; clear hown' hgrow hnew)
      have hgr : ((Y.alloc (.cells #[.bool true, .int .i64 (x : Int), .int .i64 (y : Int), .int .i64 24] 65)).alloc (.cells #[.bool true, .int .i64 (x : Int), .int .i64 oy, .int .i64 24, .bool true, .int .i64 (x : Int), .int .i64 (y : Int), .int .i64 24, .bool false, .int .i64 (x : Int), .int .i64 (y : Int), .int .i64 z, .bool true, .int .i64 (x : Int), .int .i64 (y : Int), .int .i64 24] 65)).grownBy wz (some gg) := unhide HGR
      have how : Mvs wz (w.heap.size + 4) (.slice (some ⟨g', 0, none⟩) (m + 4) cap') (m + 4) (zcs ps (k + 1)) := by unfold Mvs; rw [unhide HZC]; exact unhide HOW
      have hwzl : g' < wz.heap.size := (how.lt g' rfl).2
      have hYwz : Below w.heap.size Y wz := ((unhide HA15).mono (by omega)).grown hgr (by simp; omega) (fun j hj => by have := Option.some.inj hj; omega)
      have hkeep : ∀ b, b < Y.heap.size → b ≠ gg → wz.heap[b]? = Y.heap[b]? := fun b hb hne => (hgr.block b (by have := (unhide HA15).size; omega) (fun e => hne (Option.some.inj e))).trans ((unhide HA15).block b hb)
      have hOgg : ∀ b, O b → b ≠ gg := fun b hb e => (unhide HNO gg rfl).1 (by rw [← e]; exact hb)
      have hOB : ∀ b, O b → B ≤ b := (unhide HI).far
      have hYz : Y.heap.size ≤ wz.heap.size := Nat.le_trans (unhide HA15).size hgr.size
      have hg'c : g' = gg ∨ Y.heap.size ≤ g' := by
        rcases unhide HNW g' rfl with h | h
        · exact .inl (Option.some.inj (show some gg = some g' from h)).symm
        · exact .inr (by have := (unhide HA15).size; omega)
      have m10 : g' ≠ W1.heap.size + 1 := by omega
      have m11 : g' ≠ W1.heap.size + 1 + 1 := by omega
      have hm4 : 1 + 4 * (k + 1) = m + 4 := by have := unhide HM; omega
      refine ⟨⟨hYwz.os, hYwz.tape, hYwz.output, by simp; exact hYz, fun b hb hbl => ?_⟩, ⟨hOB, by simp; omega, ⟨_, ((unhide B10).set 0 _).ne n1110.symm, by rw [hm4]; exact how.kept (fun q hq => by simp only [Value.ownBlock, Option.some.injEq] at hq; subst hq; exact (Below.heap_setCell _ _ _ _ m11).trans (Below.heap_setCell _ _ _ _ m10)), fun q hq => ?_⟩, by rw [unhide HZO]; exact (unhide B11).set 0 _, (unhide B8).ne (by omega), (unhide B9).ne (by omega), by omega, ((((unhide HI).bel.trans hYwz).setCell (p := ⟨W1.heap.size + 1, 0, none⟩) (by simp; omega) _).setCell (p := ⟨W1.heap.size + 1 + 1, 0, none⟩) (by simp; omega) _)⟩⟩
      · have hne : b ≠ gg ∧ b ≠ W1.heap.size + 1 + 1 ∧ b ≠ W1.heap.size + 1 := by
          rcases hb with hb | hb
          · exact ⟨fun e => (unhide HNO gg rfl).2 (.inl (by rw [← e]; exact hb)), by omega, by omega⟩
          · have := hOB b hb
            exact ⟨hOgg b hb, by omega, by omega⟩
        exact (Below.heap_setCell _ _ _ _ hne.2.1).trans ((Below.heap_setCell _ _ _ _ hne.2.2).trans (hkeep b hbl hne.1))
      · simp only [Value.ownBlock, Option.some.injEq] at hq
        subst hq
        rcases hg'c with h | h
        · rw [h]
          exact unhide HNO gg rfl
        · exact ⟨fun ho => by have := (unhide HHO _ ho).2; omega, fun hS => by omega⟩
  case done =>
    intro O D Y hD hi hK hOD
    obtain ⟨v, hv, hr, hnO⟩ := hi.row
    obtain ⟨gg, cp, rfl, hgg1, hgg2⟩ := hr.full (by omega)
    have HI := hide hi
    have HK := hide hK
    have HR := hide hr
    have HNO := hide hnO
    have c10 := hv.cell (m := 0) rfl
    have c8 := hi.v8.cell (m := 0) rfl
    have f8 := hi.v8.frozen
    have c9 := hi.v9.cell (m := 0) rfl
    have f9 := hi.v9.frozen
    have e89 : w.heap.size + 1 + 1 ≠ w.heap.size + 1 + 1 + 1 := by omega
    have V8 := hide ((hi.v8.set 0 (.slice (some ⟨gg, 0, none⟩) (1 + 4 * ps.length) cp)).ne (o := 0) (x := .int .i64 0) e89)
    have V9 := hide ((hi.v9.ne (o := 0) (x := (.slice (some ⟨gg, 0, none⟩) (1 + 4 * ps.length) cp)) e89.symm).set 0 (.int .i64 0))
    clear hi hK hv hr hnO
    gi_wp2
    have hD4 : D ≠ w.heap.size + 1 + 1 := by omega
    have hD5 : D ≠ w.heap.size + 1 + 1 + 1 := by omega
    have hK9 : ((Y.setCell ⟨w.heap.size + 1 + 1, 0, none⟩ (.slice (some ⟨gg, 0, none⟩) (1 + 4 * ps.length) cp)).setCell ⟨w.heap.size + 1 + 1 + 1, 0, none⟩ (.int .i64 0)).heap[D]? = some (.deferred (some [])) := ((Below.heap_setCell _ _ _ _ hD5).trans (Below.heap_setCell _ _ _ _ hD4)).trans (unhide HK)
    refine ⟨by simp, .inl ⟨_, _, rfl, run_takeDeferred hK9, ?_⟩⟩
    have s4 := (vb.cell (show vb (((Y.setCell ⟨w.heap.size + 1 + 1, 0, none⟩ (.slice (some ⟨gg, 0, none⟩) (1 + 4 * ps.length) cp)).setCell ⟨w.heap.size + 1 + 1 + 1, 0, none⟩ (.int .i64 0)).putObj D (.deferred none)) (w.heap.size + 1 + 1) 29 [.slice (some ⟨gg, 0, none⟩) (1 + 4 * ps.length) cp] from (World.putObj_heap_other hD4.symm).trans (unhide V8)) (m := 0) rfl)
    have s5 := (vb.cell (show vb (((Y.setCell ⟨w.heap.size + 1 + 1, 0, none⟩ (.slice (some ⟨gg, 0, none⟩) (1 + 4 * ps.length) cp)).setCell ⟨w.heap.size + 1 + 1 + 1, 0, none⟩ (.int .i64 0)).putObj D (.deferred none)) (w.heap.size + 1 + 1 + 1) 3 [.int .i64 0] from (World.putObj_heap_other hD5.symm).trans (unhide V9)) (m := 0) rfl)
    have hM : Mvs (((Y.setCell ⟨w.heap.size + 1 + 1, 0, none⟩ (.slice (some ⟨gg, 0, none⟩) (1 + 4 * ps.length) cp)).setCell ⟨w.heap.size + 1 + 1 + 1, 0, none⟩ (.int .i64 0)).putObj D (.deferred none)) (w.heap.size + 4) (.slice (some ⟨gg, 0, none⟩) (1 + 4 * ps.length) cp) (1 + 4 * ps.length) (zcs ps ps.length) := (unhide HR).kept (fun q hq => by
      obtain ⟨n1, n2⟩ := unhide HNO q hq
      have m1 : q ≠ w.heap.size + 1 + 1 := fun e => n2 (.inr (.inr (.inr (.inl e))))
      have m2 : q ≠ w.heap.size + 1 + 1 + 1 := fun e => n2 (.inr (.inr (.inr (.inr e))))
      exact (World.putObj_heap_other (fun e => n1 (by rw [e]; exact hOD))).trans ((Below.heap_setCell _ _ _ _ m2).trans (Below.heap_setCell _ _ _ _ m1)))
    refine ⟨.tuple #[.slice (some ⟨gg, 0, none⟩) (1 + 4 * ps.length) cp, .int .i64 0], by simp [results, Try.results9, go_sem, s4, s5], ⟨_, _, rfl, .inl ⟨(unhide HI).few, rfl, hM.mono (by omega)⟩⟩, ?_⟩
    exact (((unhide HI).bel.setCell (p := ⟨w.heap.size + 1 + 1, 0, none⟩) (by simp; omega) _).setCell (p := ⟨w.heap.size + 1 + 1 + 1, 0, none⟩) (by simp; omega) _).trans ⟨rfl, rfl, rfl, by simp, fun b hb => World.putObj_heap_other (by omega)⟩
  case stop =>
    rintro O D k Y hD hk ⟨h1, h2, h3, h4, h5, h6⟩ hK hOD
    have HK := hide hK
    have H2 := hide h2
    have H3 := hide h3
    have H5 := hide h5
    clear hK h2 h3 h5
    gi_wp2
    have hD4 : D ≠ w.heap.size + 1 + 1 := by omega
    have hD5 : D ≠ w.heap.size + 1 + 1 + 1 := by omega
    refine ⟨by simp, .inl ⟨_, _, rfl, run_takeDeferred (unhide HK), ?_⟩⟩
    have s4 := (vb.cell (show vb (Y.putObj D (.deferred none)) (w.heap.size + 1 + 1) 29 [.slice none 0 0] from (World.putObj_heap_other hD4.symm).trans (unhide H2)) (m := 0) rfl)
    have s5 := (vb.cell (show vb (Y.putObj D (.deferred none)) (w.heap.size + 1 + 1 + 1) 3 [.int .i64 18] from (World.putObj_heap_other hD5.symm).trans (unhide H3)) (m := 0) rfl)
    refine ⟨.tuple #[.slice none 0 0, .int .i64 18], by simp [results, Try.results9, go_sem, s4, s5], ⟨_, _, rfl, .inr ⟨by omega, rfl, rfl⟩⟩, ?_⟩
    exact (unhide H5).trans ⟨rfl, rfl, rfl, by simp, fun b hb => World.putObj_heap_other (by omega)⟩
end Go.Proofs.Ytjhldjojkaphkaa

namespace Go.Proofs.Ytjhldjojkaphkaa
open Go.ChangeShapes Go.WideShapes Go.ChangeAt Go.RowKit
set_option linter.unusedVariables false
set_option linter.unusedSimpArgs false

theorem vb.mv {w w' : World} {g g' t : Nat} {vs : List Value} (h : vb w g t vs) (hb : Mv g' w w') (hg : g ≠ g') : vb w' g t vs := (hb.block g h.lt hg).trans h

set_option maxHeartbeats 1000000 in
theorem odd_any {B g : Nat} {k : Int} {w : World} (h : So B g k w) (n1 : k ≤ 1000000000) :
    Calls Try.prog 67 #[.pointer (some ⟨g, 0, none⟩)] w fun e w' => ∃ r : Int, e = .returned (.int .i64 r) ∧ -9223372036854775808 ≤ r ∧ r ≤ 9223372036854775807 ∧ So B g (k + 3) w' ∧ Mv g w w' := by
  have HB := hide (next_any 12 (h.alloc (.cells #[.int .i64 0, .int .i64 (-1), .int .i64 1, .int .i64 2, .int .i64 63, .int .i64 64, .int .i64 65, .int .i64 4096, .int .i64 4097, .int .i64 9223372036854775807, .int .i64 (-9223372036854775808), .int .i64 30] 3)) n1 (by omega) (by omega))
  have hg := h.lt
  clear h
  go_enter Try.func67, Try.ntmps67
  go_wp2_with fail
  refine (unhide HB).mono ?_
  rintro e w1 ⟨r, rfl, r0, r1, hs, hb⟩
  have HS := hide hs
  have HW := hide hb
  have hc : ∀ i, i < 12 → ∃ x : Int, -9223372036854775808 ≤ x ∧ x ≤ 9223372036854775807 ∧ w1.cell? ⟨w.heap.size, i, none⟩ = some (.int .i64 x) := by
    intro i hi
    have : ∃ x : Int, -9223372036854775808 ≤ x ∧ x ≤ 9223372036854775807 ∧ (w.alloc (.cells #[.int .i64 0, .int .i64 (-1), .int .i64 1, .int .i64 2, .int .i64 63, .int .i64 64, .int .i64 65, .int .i64 4096, .int .i64 4097, .int .i64 9223372036854775807, .int .i64 (-9223372036854775808), .int .i64 30] 3)).cell? ⟨w.heap.size, i, none⟩ = some (.int .i64 x) := by
      have hi' : i = 0 ∨ i = 1 ∨ i = 2 ∨ i = 3 ∨ i = 4 ∨ i = 5 ∨ i = 6 ∨ i = 7 ∨ i = 8 ∨ i = 9 ∨ i = 10 ∨ i = 11 := by omega
      rcases hi' with rfl | rfl | rfl | rfl | rfl | rfl | rfl | rfl | rfl | rfl | rfl | rfl
      · exact ⟨(0), by decide, by decide, by simp [go_sem]⟩
      · exact ⟨(-1), by decide, by decide, by simp [go_sem]⟩
      · exact ⟨(1), by decide, by decide, by simp [go_sem]⟩
      · exact ⟨(2), by decide, by decide, by simp [go_sem]⟩
      · exact ⟨(63), by decide, by decide, by simp [go_sem]⟩
      · exact ⟨(64), by decide, by decide, by simp [go_sem]⟩
      · exact ⟨(65), by decide, by decide, by simp [go_sem]⟩
      · exact ⟨(4096), by decide, by decide, by simp [go_sem]⟩
      · exact ⟨(4097), by decide, by decide, by simp [go_sem]⟩
      · exact ⟨(9223372036854775807), by decide, by decide, by simp [go_sem]⟩
      · exact ⟨(-9223372036854775808), by decide, by decide, by simp [go_sem]⟩
      · exact ⟨(30), by decide, by decide, by simp [go_sem]⟩
    obtain ⟨x, h1, h2, h3⟩ := this
    exact ⟨x, h1, h2, hb.cell (by omega) h3⟩
  clear hs hb
  obtain ⟨j, rfl⟩ := Int.eq_ofNat_of_zero_le r0
  obtain ⟨x, x0, x1, hx⟩ := hc j (by omega)
  clear hc
  go_wp2
  go_ret
  exact ⟨x, rfl, x0, x1, unhide HS, (Mv.of_bel (ba (Below.refl _ _) _)).trans (unhide HW)⟩


/-- on the way to a field -/
structure Fz (w : World) (B g : Nat) (k : Int) (W H : Int) (v : Value) (i : Nat) (L : List Int) (X : World) : Prop where
  so : So B g k X
  mv : Mv g w X
  hg : g < w.heap.size
  v6 : vb X w.heap.size 25 [.int .i64 0, .int .i64 0, .slice none 0 0]
  v7 : vb X (w.heap.size + 1) 25 [.int .i64 W, .int .i64 H, v]
  row : Row X (w.heap.size + 2) 3 1 v i L
theorem Fz.step {w : World} {B g : Nat} {k k' : Int} {W H : Int} {v : Value} {i : Nat} {L : List Int} {X X' : World} (h : Fz w B g k W H v i L X) (hs : So B g k' X') (mv : Mv g X X') : Fz w B g k' W H v i L X' :=
  ⟨hs, h.mv.trans mv, h.hg, h.v6.mv mv (by have := h.hg; omega), h.v7.mv mv (by have := h.hg; omega), h.row.mv mv (by have := h.hg; omega)⟩
theorem Fz.up {w : World} {B g : Nat} {k k' : Int} {W H : Int} {v : Value} {i : Nat} {L : List Int} {X : World} (h : Fz w B g k W H v i L X) (hk : k ≤ k') : Fz w B g k' W H v i L X := ⟨h.so.up hk, h.mv, h.hg, h.v6, h.v7, h.row⟩
theorem Fz.more {w : World} {B g : Nat} {k : Int} {W H : Int} {v v' : Value} {i j : Nat} {L L' : List Int} {X X' : World} (h : Fz w B g k W H v i L X) (hB : B ≤ g) (hb : Below (w.heap.size + 2) X X') (hr : Row X' (w.heap.size + 2) 3 1 v' j L') : Fz w B g k W H v' j L' (X'.setCell ⟨w.heap.size + 1, 2, none⟩ v') := by
  have hg := h.hg
  refine ⟨(h.so.belB hb (by omega)).set (by omega) (by omega) _ _, (h.mv.belB hb (by omega)).new (by omega) _ _, hg, (h.v6.below hb (by omega)).ne (by omega), (h.v7.below hb (by omega)).set 2 _, hr.kept' (fun y hy => ?_)⟩
  have := (World.ownsRow.lt hr y hy).1
  have hne : y ≠ w.heap.size + 1 := by omega
  exact Below.heap_setCell _ _ _ _ hne
theorem Fz.put {w : World} {B g q n cap : Nat} {k : Int} {W H : Int} {L : List Int} {X : World} (h : Fz w B g k W H (.slice (some ⟨q, 0, none⟩) n cap) n L X) (hB : B ≤ g) (hq : w.heap.size + 2 ≤ q) (j : Nat) (hj : j < n) (x : Int) : Fz w B g k W H (.slice (some ⟨q, 0, none⟩) n cap) n (L.set j x) (X.setCell ⟨q, j, none⟩ (.int .i64 x)) := by
  have hg := h.hg
  exact ⟨h.so.set (by omega) (by omega) _ _, h.mv.new (by omega) _ _, hg, h.v6.ne (by omega), h.v7.ne (by omega), h.row.set j (by omega) x⟩
theorem mulW {v W H : Nat} (hW : W ≤ 24) (hv : v < H) (hH : H ≤ 24) : v * W ≤ 576 := Nat.le_trans (Nat.mul_le_mul (Nat.le_of_lt hv) hW) (by omega)
theorem idx_lt {u v W H : Nat} (hu : u < W) (hv : v < H) : v * W + u < W * H := by
  have h1 : (v + 1) * W ≤ H * W := Nat.mul_le_mul_right W hv
  rw [Nat.add_mul, Nat.one_mul, Nat.mul_comm H W] at h1
  omega
set_option maxHeartbeats 4000000 in
set_option maxRecDepth 100000 in
theorem fld_any {B g : Nat} {k : Int} {w : World} (W H n : Nat) (hW1 : 1 ≤ W) (hW : W ≤ 24) (hH1 : 1 ≤ H) (hH : H ≤ 24) (hn : n = W * H) (h : So B g k w) (hk : k ≤ 900000000) :
    Calls Try.prog 66 #[.pointer (some ⟨g, 0, none⟩), .int .i64 (W : Int), .int .i64 (H : Int)] w fun e w' => ∃ q cap L, e = .returned (.agg #[.int .i64 (W : Int), .int .i64 (H : Int), .slice (some ⟨q, 0, none⟩) n cap]) ∧ Row w' w.heap.size 3 1 (.slice (some ⟨q, 0, none⟩) n cap) n L ∧ So B g (k + 1000) w' ∧ Mv g w w' := by
  have hg := h.lt
  have hB := h.above
  have hnb : n ≤ 576 := by rw [hn]; exact Nat.mul_le_mul hW hH
  have hn1 : 1 ≤ n := by rw [hn]; exact Nat.mul_pos hW1 hH1
  have wm : IntKind.i64.wrap ((W : Int) * (H : Int)) = (n : Int) := by
    rw [← Int.natCast_mul, ← hn]
    exact Go.IntWalk.i64_in _ ⟨by omega, by omega⟩
  have HIX := hide (fun (u v : Nat) (hu : u < W) (hv : v < H) => (show v * W + u < n by rw [hn]; exact idx_lt hu hv))
  have HMW := hide (fun (v : Nat) (hv : v < H) => mulW hW hv hH)
  have hb0 : Below w.heap.size w ((w.alloc (.cells #[.int .i64 0, .int .i64 0, .slice none 0 0] 25)).alloc (.cells #[.int .i64 (W : Int), .int .i64 (H : Int), .slice none 0 0] 25)) := ba (ba (Below.refl _ _) _) _
  have HZ : Hid (Fz w B g k W H (.slice none 0 0) 0 [] ((w.alloc (.cells #[.int .i64 0, .int .i64 0, .slice none 0 0] 25)).alloc (.cells #[.int .i64 (W : Int), .int .i64 (H : Int), .slice none 0 0] 25))) := hide
    ⟨h.bel hb0, Mv.of_bel hb0, hg, vb_new1 w 25 [.int .i64 0, .int .i64 0, .slice none 0 0] _, vb_new2 w 25 [.int .i64 (W : Int), .int .i64 (H : Int), .slice none 0 0] _, ⟨rfl, .inl ⟨rfl, rfl⟩⟩⟩
  obtain ⟨iP, hi1, hy0, hy1, hy2⟩ := info_parts int_info3
  clear h hb0 hn
  go_enter Try.func66, Try.ntmps66
  go_wp2_with fail
  generalize (w.alloc (.cells #[.int .i64 0, .int .i64 0, .slice none 0 0] 25)).alloc (.cells #[.int .i64 (W : Int), .int .i64 (H : Int), .slice none 0 0] 25) = Wa at *
  go_loopw [8] (fun zz X => ∃ (i : Nat) (u : Option Addr) (c : Nat), zz = .int .i64 (i : Int) ∧ i ≤ n ∧ Fz w B g k W H (.slice u i c) i (List.replicate i 0) X) (fun zz _ => n - (intOf zz).toNat)
  case atStart => exact ⟨0, _, _, rfl, Nat.zero_le _, unhide HZ⟩
  case round =>
    obtain ⟨i, u, cap, rfl, hii, hz⟩ := hrel
    have HF := hide hz
    clear hz HZ
    by_cases hc : i < n
    · have l1 : (i : Int) < (n : Int) := by omega
      have lz := decide_eq_true l1
      have c2 := (unhide HF).v7.cell (m := 2) rfl
      have f7 := (unhide HF).v7.frozen
      have HSZ : Hid (w.heap.size + 2 ≤ wr.heap.size) := hide (unhide HF).v7.lt
      go_wp2_with (at_builtin; refine unhide ?_)
      refine hide ?_
      refine wpList_append_own _ rfl _ _ 23 rfl (w.heap.size + 2) 3 iP _ 1 8 Try.underlying23 hi1 hy0 hy1 hy2 rfl (by decide) _ i ((List.replicate i (0 : Int)).map (Value.int .i64)) rfl ((unhide HF).row.alloc _) _ 1 1 ([(0 : Int)].map (Value.int .i64)) rfl rfl (by first | exact news_cells _ _ rfl | exact news_cells _ _ (by simp)) ints_one (by unfold maxLen; omega) (by omega) (by first | (have := unhide HSZ; omega) | (have := unhide HSZ; simp; omega)) ?_
      intro v1 w1 hown' hgrow hvn1
      have R1 := own_more (wr := wr) (news := [(0 : Int)]) (by repeat (first | exact Below.refl _ _ | refine Below.alloc ?_ (by first | exact unhide HSZ | (simp; exact unhide HSZ)) _ | refine Below.drew ?_)) (by first | exact Nat.le_trans (unhide HSZ) (by simp) | (have := unhide HSZ; simp; omega) | (have := unhide HSZ; omega)) (unhide HF).row hown' hgrow
      obtain ⟨u1, c1, rfl, _⟩ := R1.1.form
      have HF2 := hide ((unhide HF).more hB R1.2 R1.1)
      have v7b := (unhide HF).v7.below R1.2 (by omega)
      have c2b := v7b.cell (m := 2) rfl
      have f7b := v7b.frozen
      clear hown' hgrow hvn1 R1 v7b c2 f7
      go_wp2_with fail
      go_roundw
      case rel => exact ⟨i + 1, u1, c1, by simp, hc, by rw [List.replicate_succ']; exact unhide HF2⟩
      case measure => simp only [intOf]; omega
    · have lz : decide ((i : Int) < (n : Int)) = false := decide_eq_false (by omega)
      obtain rfl : i = n := by omega
      obtain ⟨q, cap', hv, hq, hq2, _, hcap, hcm⟩ := (unhide HF).row.full (by omega)
      cases hv
      clear hq2
      go_wp2_with fail
      refine (next_any (k := k) 3 (unhide HF).so (by omega) (by omega) (by omega)).mono ?_
      rintro e W1 ⟨r, rfl, r0, r1, hs, mv⟩
      have HF1 := hide ((unhide HF).step hs mv)
      clear hs mv HF
      obtain ⟨r, rfl⟩ := Int.eq_ofNat_of_zero_le r0
      have wr1 : IntKind.i64.wrap (1 + (r : Int)) = ((r + 1 : Nat) : Int) := (Go.IntWalk.i64_in _ ⟨by omega, by omega⟩).trans (by omega)
      generalize List.replicate i (0 : Int) = L0 at *
      go_wp2_with fail
      go_loopw [9] (fun zz X => ∃ (j : Nat) (L : List Int), zz = .int .i64 (j : Int) ∧ j ≤ 3 ∧ Fz w B g (k + 3 + 100 * (3 - (j : Int))) W H (.slice (some ⟨q, 0, none⟩) i cap) i L X) (fun zz _ => (intOf zz).toNat)
      case atStart => exact ⟨r + 1, L0, rfl, by omega, (unhide HF1).up (by omega)⟩
      case round =>
        obtain ⟨j, L, rfl, hj3, hz⟩ := hrel
        have HG := hide hz
        clear hz HF1
        by_cases hj : 0 < j
        · have lj : (0 : Int) < (j : Int) := by omega
          have ljz := decide_eq_true lj
          go_wp2_with fail
          refine (next_any (k := k + 3 + 100 * (3 - (j : Int))) (W : Int) (unhide HG).so (by omega) (by omega) (by omega)).mono ?_
          rintro e W2 ⟨x, rfl, x0, x1, hs, mv⟩
          have HG1 := hide ((unhide HG).step hs mv)
          clear hs mv HG
          obtain ⟨x, rfl⟩ := Int.eq_ofNat_of_zero_le x0
          go_wp2_with fail
          refine (next_any (k := k + 3 + 100 * (3 - (j : Int)) + 3) (H : Int) (unhide HG1).so (by omega) (by omega) (by omega)).mono ?_
          rintro e W3 ⟨y, rfl, y0, y1, hs, mv⟩
          have HG2 := hide ((unhide HG1).step hs mv)
          clear hs mv HG1
          obtain ⟨y, rfl⟩ := Int.eq_ofNat_of_zero_le y0
          go_wp2_with fail
          refine (next_any (k := k + 3 + 100 * (3 - (j : Int)) + 3 + 3) 9 (unhide HG2).so (by omega) (by omega) (by omega)).mono ?_
          rintro e W4 ⟨tp9, rfl, t0, t1, hs, mv⟩
          have HG3 := hide ((unhide HG2).step hs mv)
          clear hs mv HG2
          have wy1 : IntKind.i64.wrap ((y : Int) + 1) = (y : Int) + 1 := Go.IntWalk.i64_in _ ⟨by omega, by omega⟩
          have wx4 : IntKind.i64.wrap ((x : Int) + 4) = (x : Int) + 4 := Go.IntWalk.i64_in _ ⟨by omega, by omega⟩
          go_wp2_with fail
          go_loopw [13] (fun zz X => ∃ (v : Nat) (L : List Int), zz = .int .i64 (v : Int) ∧ y ≤ v ∧ v ≤ H ∧ Fz w B g (k + 3 + 100 * (3 - (j : Int)) + 9 + 3 * ((v : Int) - (y : Int))) W H (.slice (some ⟨q, 0, none⟩) i cap) i L X) (fun zz _ => H - (intOf zz).toNat)
          case atStart => exact ⟨y, L, rfl, Nat.le_refl _, by omega, (unhide HG3).up (by omega)⟩
          case round =>
            obtain ⟨v, L2, rfl, hv1, hv2, hz⟩ := hrel
            have HH := hide hz
            clear hz HG3
            go_wp2_with fail
            refine (next_any (k := k + 3 + 100 * (3 - (j : Int)) + 9 + 3 * ((v : Int) - (y : Int))) 4 (unhide HH).so (by omega) (by omega) (by omega)).mono ?_
            rintro e W5 ⟨f4, rfl, f0, f1, hs, mv⟩
            have HH1 := hide ((unhide HH).step hs mv)
            clear hs mv HH
            have wy2 : IntKind.i64.wrap ((y : Int) + 1 + f4) = (y : Int) + 1 + f4 := Go.IntWalk.i64_in _ ⟨by omega, by omega⟩
            by_cases hlt : (v : Int) < min ((y : Int) + 1 + f4) (H : Int)
            · have tl := decide_eq_true hlt
              have hvH : v < H := by omega
              have hmw := (unhide HMW) v hvH
              have HVH := hide hvH
              obtain ⟨vw, hvw⟩ : ∃ vw : Nat, v * W = vw := ⟨_, rfl⟩
              have wvw : IntKind.i64.wrap ((v : Int) * (W : Int)) = (vw : Int) := by
                rw [← Int.natCast_mul, hvw]
                exact Go.IntWalk.i64_in _ ⟨by omega, by omega⟩
              have hvwb : vw ≤ 576 := by omega
              have HIV : Hid (∀ u, u < W → vw + u < i) := hide (fun u hu => by rw [← hvw]; exact (unhide HIX) u v hu hvH)
              clear hvw hmw
              go_wp2_with fail
              go_loopw [14] (fun zz X => ∃ (u : Nat) (L : List Int), zz = .int .i64 (u : Int) ∧ x ≤ u ∧ u ≤ W ∧ Fz w B g (k + 3 + 100 * (3 - (j : Int)) + 9 + 3 * ((v : Int) - (y : Int)) + 3) W H (.slice (some ⟨q, 0, none⟩) i cap) i L X) (fun zz _ => W - (intOf zz).toNat)
              case atStart => exact ⟨x, L2, rfl, Nat.le_refl _, by omega, unhide HH1⟩
              case round =>
                obtain ⟨u, L3, rfl, hu1, hu2, hz⟩ := hrel
                have HI := hide hz
                clear hz HH1
                by_cases hlu : (u : Int) < min ((x : Int) + 4) (W : Int)
                · have tu := decide_eq_true hlu
                  have huW : u < W := by omega
                  have hix := (unhide HIV) u huW
                  have wix : IntKind.i64.wrap ((vw : Int) + (u : Int)) = ((vw + u : Nat) : Int) := (Go.IntWalk.i64_in _ ⟨by omega, by omega⟩).trans (by omega)
                  obtain ⟨ix, hixe⟩ : ∃ ix : Nat, vw + u = ix := ⟨_, rfl⟩
                  rw [hixe] at hix wix
                  have HIE := hide hixe
                  clear hixe
                  have i1 : (ix : Int) < (i : Int) := by omega
                  have i0 : (0 : Int) ≤ (ix : Int) := Int.natCast_nonneg _
                  have c2 := (unhide HI).v7.cell (m := 2) rfl
                  obtain ⟨xo, hxo⟩ : ∃ xo, L3[ix]? = some xo := ⟨_, List.getElem?_eq_getElem (by have := (unhide HI).row.len; omega)⟩
                  have cq := (unhide HI).row.cellAt hxo
                  have fq := (unhide HI).row.frz
                  clear hxo
                  go_wp2_with fail
                  go_roundw
                  case rel => exact ⟨u + 1, L3.set ix tp9, by simp, by omega, by omega, (unhide HI).put hB hq ix hix tp9⟩
                  case measure => simp only [intOf]; omega
                · have tu := decide_eq_false hlu
                  go_wp2_with fail
                  go_roundw
                  case rel => exact ⟨v + 1, L3, by simp, by omega, by omega, (unhide HI).up (by omega)⟩
                  case measure => simp only [intOf]; omega
            · have tl := decide_eq_false hlt
              have wj : IntKind.i64.wrap ((j : Int) - 1) = ((j - 1 : Nat) : Int) := (Go.IntWalk.i64_in _ ⟨by omega, by omega⟩).trans (by omega)
              go_wp2_with fail
              go_roundw
              case rel => exact ⟨j - 1, L2, by first | rfl | simp | (simp; omega), by omega, (unhide HH1).up (by omega)⟩
              case measure => simp only [intOf]; omega
        · have ljz : decide ((0 : Int) < (j : Int)) = false := decide_eq_false (by omega)
          obtain rfl : j = 0 := by omega
          have c0 := (unhide HG).v7.cell (m := 0) rfl
          have c1 := (unhide HG).v7.cell (m := 1) rfl
          have c2 := (unhide HG).v7.cell (m := 2) rfl
          have z0 := (unhide HG).v6.cell (m := 0) rfl
          have z1 := (unhide HG).v6.cell (m := 1) rfl
          have z2 := (unhide HG).v6.cell (m := 2) rfl
          have zf := (unhide HG).v6.frozen
          have vlt := (unhide HG).v6.lt
          go_wp2_with fail
          (try rw [Exit.noGoto_ret])
          refine bodyPost_ret (v := .agg #[.int .i64 (W : Int), .int .i64 (H : Int), .slice (some ⟨q, 0, none⟩) i cap]) (by simp [results, Try.results66, go_sem, c0, c1, c2, z0, z1, z2, vlt]) rfl ?_
          have hne : q ≠ w.heap.size := by omega
          have hle : w.heap.size ≤ w.heap.size := Nat.le_refl _
          refine ⟨q, cap, L, rfl, ((unhide HG).row.kept' (fun y hy => ?_)).mono (by omega), ?_, ?_⟩
          · simp only [Value.ownBlock, Option.some.injEq] at hy
            subst hy
            exact (Below.heap_setCell _ _ _ _ hne).trans ((Below.heap_setCell _ _ _ _ hne).trans (Below.heap_setCell _ _ _ _ hne))
          · exact ((((unhide HG).so.set (by omega) (by omega) _ _).set (by omega) (by omega) _ _).set (by omega) (by omega) _ _).up (by omega)
          · exact (((unhide HG).mv.new hle _ _).new hle _ _).new hle _ _
end Go.Proofs.Ytjhldjojkaphkaa

namespace Go.Proofs.Ytjhldjojkaphkaa
open Go.ChangeShapes Go.WideShapes Go.ChangeAt Go.RowKit
set_option linter.unusedVariables false
set_option linter.unusedSimpArgs false

theorem one_cell {W : World} {p : Nat} {x : Int} (h : W.heap[p]? = some (.cells #[.int .i64 x] 3)) : ∀ (j : Nat) (u : Value), ([x].map (Value.int .i64))[j]? = some u → W.cell? ((⟨p, 0, none⟩ : Addr).add j) = some u := by
  intro j u hj
  rw [add_none, Nat.zero_add]
  simp only [World.cell?]
  rw [h]
  simpa using hj
/-- on the way to a stock and a part -/
structure Jz (w : World) (B g : Nat) (k : Int) (b7 : Nat) (Wp Hp : Int) (q np cp : Nat) (P : List Int) (Ws Hs : Int) (us : Option Addr) (ns cs : Nat) (S : List Int) (X : World) : Prop where
  so : So B g k X
  mv : Mv g w X
  hg : g < w.heap.size
  v2 : vb X w.heap.size 25 [.int .i64 0, .int .i64 0, .slice none 0 0]
  v3 : vb X (w.heap.size + 1) 25 [.int .i64 0, .int .i64 0, .slice none 0 0]
  v7 : vb X b7 25 [.int .i64 Wp, .int .i64 Hp, .slice (some ⟨q, 0, none⟩) np cp]
  v8 : vb X (b7 + 1) 25 [.int .i64 Ws, .int .i64 Hs, .slice us ns cs]
  rp : Row X (w.heap.size + 2) 3 1 (.slice (some ⟨q, 0, none⟩) np cp) np P
  rs : Row X (b7 + 2) 3 1 (.slice us ns cs) ns S
  h7 : w.heap.size + 2 ≤ b7
  hq : q < b7
theorem Jz.step {w : World} {B g b7 q np cp ns cs : Nat} {k Wp Hp Ws Hs : Int} {us : Option Addr} {P S : List Int} {X : World} {k' : Int} {X' : World} (h : Jz w B g k b7 Wp Hp q np cp P Ws Hs us ns cs S X) (hs : So B g k' X') (mv : Mv g X X') : Jz w B g k' b7 Wp Hp q np cp P Ws Hs us ns cs S X' := by
  have hg := h.hg; have h7 := h.h7
  exact ⟨hs, h.mv.trans mv, hg, h.v2.mv mv (by omega), h.v3.mv mv (by omega), h.v7.mv mv (by omega), h.v8.mv mv (by omega), h.rp.mv mv (by omega), h.rs.mv mv (by omega), h7, h.hq⟩
theorem Jz.up {w : World} {B g b7 q np cp ns cs : Nat} {k Wp Hp Ws Hs : Int} {us : Option Addr} {P S : List Int} {X : World} {k' : Int} (h : Jz w B g k b7 Wp Hp q np cp P Ws Hs us ns cs S X) (hk : k ≤ k') : Jz w B g k' b7 Wp Hp q np cp P Ws Hs us ns cs S X := ⟨h.so.up hk, h.mv, h.hg, h.v2, h.v3, h.v7, h.v8, h.rp, h.rs, h.h7, h.hq⟩
theorem Jz.bel {w : World} {B g b7 q np cp ns cs : Nat} {k Wp Hp Ws Hs : Int} {us : Option Addr} {P S : List Int} {X : World} {X' : World} (h : Jz w B g k b7 Wp Hp q np cp P Ws Hs us ns cs S X) (hb : Below X.heap.size X X') : Jz w B g k b7 Wp Hp q np cp P Ws Hs us ns cs S X' := h.step (h.so.bel hb) (Mv.of_bel hb)
theorem Jz.alloc {w : World} {B g b7 q np cp ns cs : Nat} {k Wp Hp Ws Hs : Int} {us : Option Addr} {P S : List Int} {X : World} (h : Jz w B g k b7 Wp Hp q np cp P Ws Hs us ns cs S X) (o : Obj) : Jz w B g k b7 Wp Hp q np cp P Ws Hs us ns cs S (X.alloc o) := h.bel (ba (Below.refl _ _) o)
theorem Jz.drew {w : World} {B g b7 q np cp ns cs : Nat} {k Wp Hp Ws Hs : Int} {us : Option Addr} {P S : List Int} {X : World} (h : Jz w B g k b7 Wp Hp q np cp P Ws Hs us ns cs S X) : Jz w B g k b7 Wp Hp q np cp P Ws Hs us ns cs S X.drew := h.bel (Below.drew (Below.refl _ _))
theorem Jz.more {w : World} {B g b7 q np cp ns cs : Nat} {k Wp Hp Ws Hs : Int} {us : Option Addr} {P S : List Int} {X : World} {X' : World} {vz : Option Addr} {m cz : Nat} {S' : List Int} (h : Jz w B g k b7 Wp Hp q np cp P Ws Hs us ns cs S X) (hb : Below (b7 + 2) X X') (hr : Row X' (b7 + 2) 3 1 (.slice vz m cz) m S') :
    vb X' (b7 + 1) 25 [.int .i64 Ws, .int .i64 Hs, .slice us ns cs] ∧ Jz w B g k b7 Wp Hp q np cp P Ws Hs vz m cz S' (X'.setCell ⟨b7 + 1, 2, none⟩ (.slice vz m cz)) := by
  have hg := h.hg; have h7 := h.h7; have hB := h.so.above; have hq := h.hq
  have v8 := h.v8.below hb (by omega)
  refine ⟨v8, (h.so.belB hb (by omega)).set (by omega) (by omega) _ _, (h.mv.belB hb (by omega)).new (by omega) _ _, hg, (h.v2.below hb (by omega)).ne (by omega), (h.v3.below hb (by omega)).ne (by omega), (h.v7.below hb (by omega)).ne (by omega), v8.set 2 _, h.rp.kept' (fun y hy => ?_), hr.kept' (fun y hy => ?_), h7, hq⟩
  · simp only [Value.ownBlock, Option.some.injEq] at hy
    subst hy
    have hne : q ≠ b7 + 1 := by omega
    exact (Below.heap_setCell _ _ _ _ hne).trans (hb.block q (by omega))
  · have := (World.ownsRow.lt hr y hy).1
    have hne : y ≠ b7 + 1 := by omega
    exact Below.heap_setCell _ _ _ _ hne
theorem Jz.put {w : World} {B g b7 q np cp ns cs : Nat} {k Wp Hp Ws Hs : Int} {us : Option Addr} {P S : List Int} {X : World} {j : Nat} (h : Jz w B g k b7 Wp Hp q np cp P Ws Hs us ns cs S X) (hj : j < np) (x : Int) : Jz w B g k b7 Wp Hp q np cp (P.set j x) Ws Hs us ns cs S (X.setCell ⟨q, j, none⟩ (.int .i64 x)) := by
  have hg := h.hg; have h7 := h.h7; have hB := h.so.above; have hq := h.hq; have hq2 := h.rp.ge
  refine ⟨h.so.set (by omega) (by omega) _ _, h.mv.new (by omega) _ _, hg, h.v2.ne (by omega), h.v3.ne (by omega), h.v7.ne (by omega), h.v8.ne (by omega), h.rp.set j (by omega) x, h.rs.kept' (fun y hy => ?_), h7, hq⟩
  have := (World.ownsRow.lt h.rs y hy).1
  have hne : y ≠ q := by omega
  exact Below.heap_setCell _ _ _ _ hne
noncomputable def reg34 (id : Nat) : Go.Code := match Try.f32.body with | some c => (regOf id c).getD .skip | none => .skip
set_option maxHeartbeats 4000000 in
set_option maxRecDepth 100000 in
theorem jb8 {s1 s2 s3 s4 s5 s6 s10 s11 s12 s13 s14 s15 s16 s17 s18 s19 s20 s21 s22 s23 s24 s25 s26 s27 s28 s29 s30 s31 s32 s33 s34 s35 s36 s37 s38 s39 s40 s41 s42 s43 s44 s45 s46 s47 s48 s49 s50 s51 s52 s53 s54 s55 s56 s57 s58 s59 s60 s61 s62 s63 s64 s65 s66 s67 s68 s69 s70 s71 s72 s73 s74 s75 s76 s77 s78 s79 s80 s81 s82 s83 s84 s85 s86 s87 s88 s89 s90 s91 s92 s93 s94 s95 s96 : Value} {w V : World} {B g b7 q np cp ns cs : Nat} {k Wp Hp Ws Hs xt : Int} {us : Option Addr} {P S : List Int} {K_ : Act → World → Prop} (hk : k ≤ 900000000) (hlt : ns < np) (hnp : np ≤ 576)
    (HXT : Hid (P[ns]? = some xt)) (H2 : Hid (Jz w B g (k) b7 Wp Hp q np cp P Ws Hs us ns cs S V))
    (hQ : ∀ (y37 y38 y39 y40 y41 y42 y43 y44 y45 y46 y47 y48 y49 y50 : Value) (vq : Option Addr) (cq : Nat) (z : Int) (W' : World), Jz w B g (k + 3) b7 Wp Hp q np cp P Ws Hs vq (ns + 1) cq (S ++ [z]) W' → K_ { tmps := #[.pointer (some ⟨g, 0, none⟩), s1, s2, s3, s4, s5, s6, .pointer (some ⟨b7, 0, none⟩), .pointer (some ⟨b7 + 1, 0, none⟩), .int .i64 ((ns : Int)), s10, s11, s12, s13, s14, s15, s16, s17, s18, s19, s20, s21, s22, s23, s24, s25, s26, s27, s28, s29, s30, s31, s32, s33, s34, s35, s36, y37, y38, y39, y40, y41, y42, y43, y44, y45, y46, y47, y48, y49, y50, s51, s52, s53, s54, s55, s56, s57, s58, s59, s60, s61, s62, s63, s64, s65, s66, s67, s68, s69, s70, s71, s72, s73, s74, s75, s76, s77, s78, s79, s80, s81, s82, s83, s84, s85, s86, s87, s88, s89, s90, s91, s92, s93, s94, s95, s96], defers := [] } W') :
    Go.Code.wp Try.prog (reg34 8) (Only K_) { tmps := #[.pointer (some ⟨g, 0, none⟩), s1, s2, s3, s4, s5, s6, .pointer (some ⟨b7, 0, none⟩), .pointer (some ⟨b7 + 1, 0, none⟩), .int .i64 ((ns : Int)), s10, s11, s12, s13, s14, s15, s16, s17, s18, s19, s20, s21, s22, s23, s24, s25, s26, s27, s28, s29, s30, s31, s32, s33, s34, s35, s36, s37, s38, s39, s40, s41, s42, s43, s44, s45, s46, s47, s48, s49, s50, s51, s52, s53, s54, s55, s56, s57, s58, s59, s60, s61, s62, s63, s64, s65, s66, s67, s68, s69, s70, s71, s72, s73, s74, s75, s76, s77, s78, s79, s80, s81, s82, s83, s84, s85, s86, s87, s88, s89, s90, s91, s92, s93, s94, s95, s96], defers := [] } V := by
  obtain ⟨iP, hi1, hy0, hy1, hy2⟩ := info_parts int_info3
  have HQ := hide hQ
  clear hQ
  conv => arg 2; whnf
  refine wp_region_inv2 (fun Lb A W => ∃ (u0 u1 u2 u3 u4 u5 u6 u7 u8 u9 u10 u11 u12 u13 u14 : Bool) (r : Int) (p : Nat) (vq : Option Addr) (cq : Nat), Lb = #[u0, u1, u2, u3, u4, u5, u6, u7, u8, u9, u10, u11, u12, u13, u14] ∧ A = ({ tmps := #[.pointer (some ⟨g, 0, none⟩), s1, s2, s3, s4, s5, s6, .pointer (some ⟨b7, 0, none⟩), .pointer (some ⟨b7 + 1, 0, none⟩), .int .i64 ((ns : Int)), s10, s11, s12, s13, s14, s15, s16, s17, s18, s19, s20, s21, s22, s23, s24, s25, s26, s27, s28, s29, s30, s31, s32, s33, s34, s35, s36, (bif u0 then .pointer (some ⟨b7 + 1, 2, none⟩) else s37), (bif u1 then .slice us ns cs else s38), (bif u2 then .pointer (some ⟨g, 0, none⟩) else s39), (bif u3 then .int .i64 (r) else s40), (bif u4 then .int .i64 (8 + r) else s41), (bif u5 then .pointer (some ⟨b7, 2, none⟩) else s42), (bif u6 then .slice (some ⟨q, 0, none⟩) np cp else s43), (bif u7 then .int .i64 ((ns : Int)) else s44), (bif u8 then .pointer (some ⟨q, ns, none⟩) else s45), (bif u9 then .int .i64 (xt) else s46), (bif u10 then .int .i64 (max (8 + r) xt) else s47), (bif u11 then .slice (some ⟨p, 0, none⟩) 1 1 else s48), (bif u12 then .slice vq (ns + 1) cq else s49), (bif u13 then .pointer (some ⟨b7 + 1, 2, none⟩) else s50), s51, s52, s53, s54, s55, s56, s57, s58, s59, s60, s61, s62, s63, s64, s65, s66, s67, s68, s69, s70, s71, s72, s73, s74, s75, s76, s77, s78, s79, s80, s81, s82, s83, s84, s85, s86, s87, s88, s89, s90, s91, s92, s93, s94, s95, s96], defers := [] } : Act) ∧ (u12 = false → Jz w B g (k + (bif u3 then 3 else 0)) b7 Wp Hp q np cp P Ws Hs us ns cs S W) ∧ (u3 = true → 0 ≤ r ∧ r < 3) ∧ (u11 = true → u12 = false → W.heap[p]? = some (.cells #[.int .i64 (max (8 + r) xt)] 3)) ∧ (u12 = true → u14 = false → vb W (b7 + 1) 25 [.int .i64 Ws, .int .i64 Hs, .slice us ns cs] ∧ Jz w B g (k + 3) b7 Wp Hp q np cp P Ws Hs vq (ns + 1) cq (S ++ [max (8 + r) xt]) (W.setCell ⟨b7 + 1, 2, none⟩ (.slice vq (ns + 1) cq))) ∧ (u14 = true → Jz w B g (k + 3) b7 Wp Hp q np cp P Ws Hs vq (ns + 1) cq (S ++ [max (8 + r) xt]) W) ∧ (u1 = true → u0 = true) ∧ (u3 = true → u2 = true) ∧ (u4 = true → u3 = true) ∧ (u6 = true → u5 = true) ∧ (u8 = true → u6 = true ∧ u7 = true) ∧ (u9 = true → u8 = true) ∧ (u10 = true → u4 = true ∧ u9 = true) ∧ (u11 = true → u10 = true) ∧ (u12 = true → u1 = true ∧ u11 = true) ∧ (u14 = true → u0 = true ∧ u1 = true ∧ u2 = true ∧ u3 = true ∧ u4 = true ∧ u5 = true ∧ u6 = true ∧ u7 = true ∧ u8 = true ∧ u9 = true ∧ u10 = true ∧ u11 = true ∧ u12 = true ∧ u13 = true)) (by kernel_rfl) (by kernel_rfl) ?h0 ?hstep ?hend
  case h0 =>
    exact ⟨false, false, false, false, false, false, false, false, false, false, false, false, false, false, false, 0, 0, none, 0, rfl, rfl, (fun _ => by simpa using (unhide H2).drew), (fun h => nomatch h), (fun h => nomatch h), (fun h => nomatch h), (fun h => nomatch h), (fun h => nomatch h), (fun h => nomatch h), (fun h => nomatch h), (fun h => nomatch h), (fun h => nomatch h), (fun h => nomatch h), (fun h => nomatch h), (fun h => nomatch h), (fun h => nomatch h), (fun h => nomatch h)⟩
  case hstep =>
    rintro Lb A W ⟨u0, u1, u2, u3, u4, u5, u6, u7, u8, u9, u10, u11, u12, u13, u14, r, p, vq, cq, rfl, rfl, kS, b3, q11, kM, kZ, c1, c3, c4, c6, c8, c9, c10, c11, c12, kF⟩
    refine ⟨?_, ?_, ?_, ?_, ?_, ?_, ?_, ?_, ?_, ?_, ?_, ?_, ?_, ?_, ?_, trivial⟩
    · intro h0 hd K hK
      have z : u0 = false := h0
      have z14_ : u14 = false := by
        cases hu : u14 with
        | false => rfl
        | true => exact nomatch z.symm.trans ((kF hu).1)
      have z12_ : u12 = false := by
        cases hu : u12 with
        | false => rfl
        | true => exact nomatch z.symm.trans ((c1 (c12 hu).1))
      have H_kS := hide kS
      have H_b3 := hide b3
      have H_q11 := hide q11
      have H_kM := hide kM
      have H_kZ := hide kZ
      have H_c1 := hide c1
      have H_c3 := hide c3
      have H_c4 := hide c4
      have H_c6 := hide c6
      have H_c8 := hide c8
      have H_c9 := hide c9
      have H_c10 := hide c10
      have H_c11 := hide c11
      have H_c12 := hide c12
      have H_kF := hide kF
      clear kS b3 q11 kM kZ c1 c3 c4 c6 c8 c9 c10 c11 c12 kF
      subst z14_
      subst z12_
      subst z
      clear h0 hd
      rw [if_pos (by rfl)]
      go_simp
      exact unhide hK _ _ ⟨true, u1, u2, u3, u4, u5, u6, u7, u8, u9, u10, u11, false, u13, false, r, p, vq, cq, rfl, rfl, unhide H_kS, unhide H_b3, unhide H_q11, (fun h => nomatch h), (fun h => nomatch h), (fun h => rfl), unhide H_c3, unhide H_c4, unhide H_c6, unhide H_c8, unhide H_c9, unhide H_c10, unhide H_c11, (fun h => nomatch h), (fun h => nomatch h)⟩
    · intro h0 hd K hK
      have z : u1 = false := h0
      have z14_ : u14 = false := by
        cases hu : u14 with
        | false => rfl
        | true => exact nomatch z.symm.trans ((kF hu).2.1)
      have z12_ : u12 = false := by
        cases hu : u12 with
        | false => rfl
        | true => exact nomatch z.symm.trans ((c12 hu).1)
      have zd : u0 = true := by
        simp [Region.binds] at hd
        simp [hd]
      have H_kS := hide kS
      have H_b3 := hide b3
      have H_q11 := hide q11
      have H_kM := hide kM
      have H_kZ := hide kZ
      have H_c1 := hide c1
      have H_c3 := hide c3
      have H_c4 := hide c4
      have H_c6 := hide c6
      have H_c8 := hide c8
      have H_c9 := hide c9
      have H_c10 := hide c10
      have H_c11 := hide c11
      have H_c12 := hide c12
      have H_kF := hide kF
      clear kS b3 q11 kM kZ c1 c3 c4 c6 c8 c9 c10 c11 c12 kF
      obtain ⟨rfl⟩ := zd
      subst z14_
      subst z12_
      subst z
      clear h0 hd
      rw [if_pos (by rfl)]
      have cc := (unhide H_kS rfl).v8.cell (m := 2) rfl
      go_simp
      exact unhide hK _ _ ⟨true, true, u2, u3, u4, u5, u6, u7, u8, u9, u10, u11, false, u13, false, r, p, vq, cq, rfl, rfl, unhide H_kS, unhide H_b3, unhide H_q11, (fun h => nomatch h), (fun h => nomatch h), (fun _ => rfl), unhide H_c3, unhide H_c4, unhide H_c6, unhide H_c8, unhide H_c9, unhide H_c10, unhide H_c11, (fun h => nomatch h), (fun h => nomatch h)⟩
    · intro h0 hd K hK
      have z : u2 = false := h0
      have z14_ : u14 = false := by
        cases hu : u14 with
        | false => rfl
        | true => exact nomatch z.symm.trans ((kF hu).2.2.1)
      have z12_ : u12 = false := by
        cases hu : u12 with
        | false => rfl
        | true => exact nomatch z.symm.trans ((c3 (c4 (c10 (c11 (c12 hu).2)).1)))
      have H_kS := hide kS
      have H_b3 := hide b3
      have H_q11 := hide q11
      have H_kM := hide kM
      have H_kZ := hide kZ
      have H_c1 := hide c1
      have H_c3 := hide c3
      have H_c4 := hide c4
      have H_c6 := hide c6
      have H_c8 := hide c8
      have H_c9 := hide c9
      have H_c10 := hide c10
      have H_c11 := hide c11
      have H_c12 := hide c12
      have H_kF := hide kF
      clear kS b3 q11 kM kZ c1 c3 c4 c6 c8 c9 c10 c11 c12 kF
      subst z14_
      subst z12_
      subst z
      clear h0 hd
      rw [if_pos (by rfl)]
      go_simp
      exact unhide hK _ _ ⟨u0, u1, true, u3, u4, u5, u6, u7, u8, u9, u10, u11, false, u13, false, r, p, vq, cq, rfl, rfl, unhide H_kS, unhide H_b3, unhide H_q11, (fun h => nomatch h), (fun h => nomatch h), unhide H_c1, (fun h => rfl), unhide H_c4, unhide H_c6, unhide H_c8, unhide H_c9, unhide H_c10, unhide H_c11, (fun h => nomatch h), (fun h => nomatch h)⟩
    · intro h0 hd K hK
      have z : u3 = false := h0
      have z14_ : u14 = false := by
        cases hu : u14 with
        | false => rfl
        | true => exact nomatch z.symm.trans ((kF hu).2.2.2.1)
      have z4_ : u4 = false := by
        cases hu : u4 with
        | false => rfl
        | true => exact nomatch z.symm.trans ((c4 hu))
      have z10_ : u10 = false := by
        cases hu : u10 with
        | false => rfl
        | true => exact nomatch z.symm.trans ((c4 (c10 hu).1))
      have z11_ : u11 = false := by
        cases hu : u11 with
        | false => rfl
        | true => exact nomatch z.symm.trans ((c4 (c10 (c11 hu)).1))
      have z12_ : u12 = false := by
        cases hu : u12 with
        | false => rfl
        | true => exact nomatch z.symm.trans ((c4 (c10 (c11 (c12 hu).2)).1))
      have zd : u2 = true := by
        simp [Region.binds] at hd
        simp [hd]
      have H_kS := hide kS
      have H_b3 := hide b3
      have H_q11 := hide q11
      have H_kM := hide kM
      have H_kZ := hide kZ
      have H_c1 := hide c1
      have H_c3 := hide c3
      have H_c4 := hide c4
      have H_c6 := hide c6
      have H_c8 := hide c8
      have H_c9 := hide c9
      have H_c10 := hide c10
      have H_c11 := hide c11
      have H_c12 := hide c12
      have H_kF := hide kF
      clear kS b3 q11 kM kZ c1 c3 c4 c6 c8 c9 c10 c11 c12 kF
      obtain ⟨rfl⟩ := zd
      subst z14_
      subst z4_
      subst z10_
      subst z11_
      subst z12_
      subst z
      clear h0 hd
      rw [if_pos (by rfl)]
      have HSS := unhide H_kS rfl
      simp only [cond_false, Int.add_zero] at HSS
      go_simp
      refine (next_any (k := k) 3 HSS.so (by omega) (by omega) (by omega)).mono ?_
      rintro e w8 ⟨r', rfl, hr1, hr2, hs, mv⟩
      exact unhide hK _ _ ⟨u0, u1, true, true, false, u5, u6, u7, u8, u9, false, false, false, u13, false, r', p, vq, cq, rfl, rfl, (fun _ => HSS.step hs mv), (fun _ => ⟨hr1, hr2⟩), (fun h => nomatch h), (fun h => nomatch h), (fun h => nomatch h), unhide H_c1, (fun _ => rfl), (fun h => nomatch h), unhide H_c6, unhide H_c8, unhide H_c9, (fun h => nomatch h), (fun h => nomatch h), (fun h => nomatch h), (fun h => nomatch h)⟩
    · intro h0 hd K hK
      have z : u4 = false := h0
      have z14_ : u14 = false := by
        cases hu : u14 with
        | false => rfl
        | true => exact nomatch z.symm.trans ((kF hu).2.2.2.2.1)
      have z12_ : u12 = false := by
        cases hu : u12 with
        | false => rfl
        | true => exact nomatch z.symm.trans ((c10 (c11 (c12 hu).2)).1)
      have zd : u3 = true := by
        simp [Region.binds] at hd
        simp [hd]
      have H_kS := hide kS
      have H_b3 := hide b3
      have H_q11 := hide q11
      have H_kM := hide kM
      have H_kZ := hide kZ
      have H_c1 := hide c1
      have H_c3 := hide c3
      have H_c4 := hide c4
      have H_c6 := hide c6
      have H_c8 := hide c8
      have H_c9 := hide c9
      have H_c10 := hide c10
      have H_c11 := hide c11
      have H_c12 := hide c12
      have H_kF := hide kF
      clear kS b3 q11 kM kZ c1 c3 c4 c6 c8 c9 c10 c11 c12 kF
      obtain ⟨rfl⟩ := zd
      subst z14_
      subst z12_
      subst z
      clear h0 hd
      rw [if_pos (by rfl)]
      have hb := unhide H_b3 rfl
      have ww : IntKind.i64.wrap (8 + r) = 8 + r := wrap_i (by omega) (by omega)
      go_simp
      exact unhide hK _ _ ⟨u0, u1, u2, true, true, u5, u6, u7, u8, u9, u10, u11, false, u13, false, r, p, vq, cq, rfl, rfl, unhide H_kS, unhide H_b3, unhide H_q11, (fun h => nomatch h), (fun h => nomatch h), unhide H_c1, unhide H_c3, (fun _ => rfl), unhide H_c6, unhide H_c8, unhide H_c9, (fun h => ⟨rfl, (unhide H_c10 h).2⟩), unhide H_c11, (fun h => nomatch h), (fun h => nomatch h)⟩
    · intro h0 hd K hK
      have z : u5 = false := h0
      have z14_ : u14 = false := by
        cases hu : u14 with
        | false => rfl
        | true => exact nomatch z.symm.trans ((kF hu).2.2.2.2.2.1)
      have z12_ : u12 = false := by
        cases hu : u12 with
        | false => rfl
        | true => exact nomatch z.symm.trans ((c6 (c8 (c9 (c10 (c11 (c12 hu).2)).2)).1))
      have H_kS := hide kS
      have H_b3 := hide b3
      have H_q11 := hide q11
      have H_kM := hide kM
      have H_kZ := hide kZ
      have H_c1 := hide c1
      have H_c3 := hide c3
      have H_c4 := hide c4
      have H_c6 := hide c6
      have H_c8 := hide c8
      have H_c9 := hide c9
      have H_c10 := hide c10
      have H_c11 := hide c11
      have H_c12 := hide c12
      have H_kF := hide kF
      clear kS b3 q11 kM kZ c1 c3 c4 c6 c8 c9 c10 c11 c12 kF
      subst z14_
      subst z12_
      subst z
      clear h0 hd
      rw [if_pos (by rfl)]
      go_simp
      exact unhide hK _ _ ⟨u0, u1, u2, u3, u4, true, u6, u7, u8, u9, u10, u11, false, u13, false, r, p, vq, cq, rfl, rfl, unhide H_kS, unhide H_b3, unhide H_q11, (fun h => nomatch h), (fun h => nomatch h), unhide H_c1, unhide H_c3, unhide H_c4, (fun h => rfl), unhide H_c8, unhide H_c9, unhide H_c10, unhide H_c11, (fun h => nomatch h), (fun h => nomatch h)⟩
    · intro h0 hd K hK
      have z : u6 = false := h0
      have z14_ : u14 = false := by
        cases hu : u14 with
        | false => rfl
        | true => exact nomatch z.symm.trans ((kF hu).2.2.2.2.2.2.1)
      have z12_ : u12 = false := by
        cases hu : u12 with
        | false => rfl
        | true => exact nomatch z.symm.trans ((c8 (c9 (c10 (c11 (c12 hu).2)).2)).1)
      have zd : u5 = true := by
        simp [Region.binds] at hd
        simp [hd]
      have H_kS := hide kS
      have H_b3 := hide b3
      have H_q11 := hide q11
      have H_kM := hide kM
      have H_kZ := hide kZ
      have H_c1 := hide c1
      have H_c3 := hide c3
      have H_c4 := hide c4
      have H_c6 := hide c6
      have H_c8 := hide c8
      have H_c9 := hide c9
      have H_c10 := hide c10
      have H_c11 := hide c11
      have H_c12 := hide c12
      have H_kF := hide kF
      clear kS b3 q11 kM kZ c1 c3 c4 c6 c8 c9 c10 c11 c12 kF
      obtain ⟨rfl⟩ := zd
      subst z14_
      subst z12_
      subst z
      clear h0 hd
      rw [if_pos (by rfl)]
      have cc := (unhide H_kS rfl).v7.cell (m := 2) rfl
      go_simp
      exact unhide hK _ _ ⟨u0, u1, u2, u3, u4, true, true, u7, u8, u9, u10, u11, false, u13, false, r, p, vq, cq, rfl, rfl, unhide H_kS, unhide H_b3, unhide H_q11, (fun h => nomatch h), (fun h => nomatch h), unhide H_c1, unhide H_c3, unhide H_c4, (fun _ => rfl), (fun h => ⟨rfl, (unhide H_c8 h).2⟩), unhide H_c9, unhide H_c10, unhide H_c11, (fun h => nomatch h), (fun h => nomatch h)⟩
    · intro h0 hd K hK
      have z : u7 = false := h0
      have z14_ : u14 = false := by
        cases hu : u14 with
        | false => rfl
        | true => exact nomatch z.symm.trans ((kF hu).2.2.2.2.2.2.2.1)
      have z12_ : u12 = false := by
        cases hu : u12 with
        | false => rfl
        | true => exact nomatch z.symm.trans ((c8 (c9 (c10 (c11 (c12 hu).2)).2)).2)
      have H_kS := hide kS
      have H_b3 := hide b3
      have H_q11 := hide q11
      have H_kM := hide kM
      have H_kZ := hide kZ
      have H_c1 := hide c1
      have H_c3 := hide c3
      have H_c4 := hide c4
      have H_c6 := hide c6
      have H_c8 := hide c8
      have H_c9 := hide c9
      have H_c10 := hide c10
      have H_c11 := hide c11
      have H_c12 := hide c12
      have H_kF := hide kF
      clear kS b3 q11 kM kZ c1 c3 c4 c6 c8 c9 c10 c11 c12 kF
      subst z14_
      subst z12_
      subst z
      clear h0 hd
      rw [if_pos (by rfl)]
      go_simp
      exact unhide hK _ _ ⟨u0, u1, u2, u3, u4, u5, u6, true, u8, u9, u10, u11, false, u13, false, r, p, vq, cq, rfl, rfl, unhide H_kS, unhide H_b3, unhide H_q11, (fun h => nomatch h), (fun h => nomatch h), unhide H_c1, unhide H_c3, unhide H_c4, unhide H_c6, (fun h => ⟨(unhide H_c8 h).1, rfl⟩), unhide H_c9, unhide H_c10, unhide H_c11, (fun h => nomatch h), (fun h => nomatch h)⟩
    · intro h0 hd K hK
      have z : u8 = false := h0
      have z14_ : u14 = false := by
        cases hu : u14 with
        | false => rfl
        | true => exact nomatch z.symm.trans ((kF hu).2.2.2.2.2.2.2.2.1)
      have z12_ : u12 = false := by
        cases hu : u12 with
        | false => rfl
        | true => exact nomatch z.symm.trans ((c9 (c10 (c11 (c12 hu).2)).2))
      have zd : u6 = true ∧ u7 = true := by
        simp [Region.binds] at hd
        simp [hd]
      have H_kS := hide kS
      have H_b3 := hide b3
      have H_q11 := hide q11
      have H_kM := hide kM
      have H_kZ := hide kZ
      have H_c1 := hide c1
      have H_c3 := hide c3
      have H_c4 := hide c4
      have H_c6 := hide c6
      have H_c8 := hide c8
      have H_c9 := hide c9
      have H_c10 := hide c10
      have H_c11 := hide c11
      have H_c12 := hide c12
      have H_kF := hide kF
      clear kS b3 q11 kM kZ c1 c3 c4 c6 c8 c9 c10 c11 c12 kF
      obtain ⟨rfl, rfl⟩ := zd
      subst z14_
      subst z12_
      subst z
      clear h0 hd
      rw [if_pos (by rfl)]
      have i1 : (ns : Int) < (np : Int) := by omega
      have i0 : (0 : Int) ≤ (ns : Int) := Int.natCast_nonneg _
      go_simp
      exact unhide hK _ _ ⟨u0, u1, u2, u3, u4, u5, true, true, true, u9, u10, u11, false, u13, false, r, p, vq, cq, rfl, rfl, unhide H_kS, unhide H_b3, unhide H_q11, (fun h => nomatch h), (fun h => nomatch h), unhide H_c1, unhide H_c3, unhide H_c4, unhide H_c6, (fun _ => ⟨rfl, rfl⟩), (fun h => rfl), unhide H_c10, unhide H_c11, (fun h => nomatch h), (fun h => nomatch h)⟩
    · intro h0 hd K hK
      have z : u9 = false := h0
      have z14_ : u14 = false := by
        cases hu : u14 with
        | false => rfl
        | true => exact nomatch z.symm.trans ((kF hu).2.2.2.2.2.2.2.2.2.1)
      have z12_ : u12 = false := by
        cases hu : u12 with
        | false => rfl
        | true => exact nomatch z.symm.trans ((c10 (c11 (c12 hu).2)).2)
      have zd : u8 = true := by
        simp [Region.binds] at hd
        simp [hd]
      have H_kS := hide kS
      have H_b3 := hide b3
      have H_q11 := hide q11
      have H_kM := hide kM
      have H_kZ := hide kZ
      have H_c1 := hide c1
      have H_c3 := hide c3
      have H_c4 := hide c4
      have H_c6 := hide c6
      have H_c8 := hide c8
      have H_c9 := hide c9
      have H_c10 := hide c10
      have H_c11 := hide c11
      have H_c12 := hide c12
      have H_kF := hide kF
      clear kS b3 q11 kM kZ c1 c3 c4 c6 c8 c9 c10 c11 c12 kF
      obtain ⟨rfl⟩ := zd
      subst z14_
      subst z12_
      subst z
      clear h0 hd
      rw [if_pos (by rfl)]
      have cc := (unhide H_kS rfl).rp.cellAt (unhide HXT)
      go_simp
      exact unhide hK _ _ ⟨u0, u1, u2, u3, u4, u5, u6, u7, true, true, u10, u11, false, u13, false, r, p, vq, cq, rfl, rfl, unhide H_kS, unhide H_b3, unhide H_q11, (fun h => nomatch h), (fun h => nomatch h), unhide H_c1, unhide H_c3, unhide H_c4, unhide H_c6, unhide H_c8, (fun _ => rfl), (fun h => ⟨(unhide H_c10 h).1, rfl⟩), unhide H_c11, (fun h => nomatch h), (fun h => nomatch h)⟩
    · intro h0 hd K hK
      have z : u10 = false := h0
      have z14_ : u14 = false := by
        cases hu : u14 with
        | false => rfl
        | true => exact nomatch z.symm.trans ((kF hu).2.2.2.2.2.2.2.2.2.2.1)
      have z12_ : u12 = false := by
        cases hu : u12 with
        | false => rfl
        | true => exact nomatch z.symm.trans ((c11 (c12 hu).2))
      have zd : u4 = true ∧ u9 = true := by
        simp [Region.binds] at hd
        simp [hd]
      have H_kS := hide kS
      have H_b3 := hide b3
      have H_q11 := hide q11
      have H_kM := hide kM
      have H_kZ := hide kZ
      have H_c1 := hide c1
      have H_c3 := hide c3
      have H_c4 := hide c4
      have H_c6 := hide c6
      have H_c8 := hide c8
      have H_c9 := hide c9
      have H_c10 := hide c10
      have H_c11 := hide c11
      have H_c12 := hide c12
      have H_kF := hide kF
      clear kS b3 q11 kM kZ c1 c3 c4 c6 c8 c9 c10 c11 c12 kF
      obtain ⟨rfl, rfl⟩ := zd
      subst z14_
      subst z12_
      subst z
      clear h0 hd
      rw [if_pos (by rfl)]
      go_simp
      exact unhide hK _ _ ⟨u0, u1, u2, u3, true, u5, u6, u7, u8, true, true, u11, false, u13, false, r, p, vq, cq, rfl, rfl, unhide H_kS, unhide H_b3, unhide H_q11, (fun h => nomatch h), (fun h => nomatch h), unhide H_c1, unhide H_c3, unhide H_c4, unhide H_c6, unhide H_c8, unhide H_c9, (fun _ => ⟨rfl, rfl⟩), (fun h => rfl), (fun h => nomatch h), (fun h => nomatch h)⟩
    · intro h0 hd K hK
      have z : u11 = false := h0
      have z14_ : u14 = false := by
        cases hu : u14 with
        | false => rfl
        | true => exact nomatch z.symm.trans ((kF hu).2.2.2.2.2.2.2.2.2.2.2.1)
      have z12_ : u12 = false := by
        cases hu : u12 with
        | false => rfl
        | true => exact nomatch z.symm.trans ((c12 hu).2)
      have zd : u10 = true := by
        simp [Region.binds] at hd
        simp [hd]
      have H_kS := hide kS
      have H_b3 := hide b3
      have H_q11 := hide q11
      have H_kM := hide kM
      have H_kZ := hide kZ
      have H_c1 := hide c1
      have H_c3 := hide c3
      have H_c4 := hide c4
      have H_c6 := hide c6
      have H_c8 := hide c8
      have H_c9 := hide c9
      have H_c10 := hide c10
      have H_c11 := hide c11
      have H_c12 := hide c12
      have H_kF := hide kF
      clear kS b3 q11 kM kZ c1 c3 c4 c6 c8 c9 c10 c11 c12 kF
      obtain ⟨rfl⟩ := zd
      subst z14_
      subst z12_
      subst z
      clear h0 hd
      rw [if_pos (by rfl)]
      go_simp
      exact unhide hK _ _ ⟨u0, u1, u2, u3, u4, u5, u6, u7, u8, u9, true, true, false, u13, false, r, W.heap.size, vq, cq, rfl, rfl, (fun _ => (unhide H_kS rfl).alloc _), unhide H_b3, (fun _ _ => heap_alloc_new W _), (fun h => nomatch h), (fun h => nomatch h), unhide H_c1, unhide H_c3, unhide H_c4, unhide H_c6, unhide H_c8, unhide H_c9, unhide H_c10, (fun _ => rfl), (fun h => nomatch h), (fun h => nomatch h)⟩
    · intro h0 hd K hK
      have z : u12 = false := h0
      have z14_ : u14 = false := by
        cases hu : u14 with
        | false => rfl
        | true => exact nomatch z.symm.trans ((kF hu).2.2.2.2.2.2.2.2.2.2.2.2.1)
      have zd : u1 = true ∧ u11 = true := by
        simp [Region.binds] at hd
        simp [hd]
      have H_kS := hide kS
      have H_b3 := hide b3
      have H_q11 := hide q11
      have H_kM := hide kM
      have H_kZ := hide kZ
      have H_c1 := hide c1
      have H_c3 := hide c3
      have H_c4 := hide c4
      have H_c6 := hide c6
      have H_c8 := hide c8
      have H_c9 := hide c9
      have H_c10 := hide c10
      have H_c11 := hide c11
      have H_c12 := hide c12
      have H_kF := hide kF
      clear kS b3 q11 kM kZ c1 c3 c4 c6 c8 c9 c10 c11 c12 kF
      obtain ⟨rfl, rfl⟩ := zd
      subst z14_
      subst z
      clear h0 hd
      rw [if_pos (by rfl)]
      have HS0 := unhide H_kS rfl
      have hq0 := unhide H_q11 rfl rfl
      have hszz := HS0.v8.lt
      refine wp_append_own W (.tmp 38) (.tmp 48) 23 (by rfl) (b7 + 2) 3 iP _ 1 8 Try.underlying23 hi1 hy0 hy1 hy2 rfl (by omega) (.slice us ns cs) ns (S.map (Value.int .i64)) (by rfl) HS0.rs ⟨p, 0, none⟩ 1 1 ([max (8 + r) xt].map (Value.int .i64)) (by rfl) (by rfl) (one_cell hq0) ints_one (by unfold maxLen; omega) (by omega) (by omega) ?_
      intro v' wz hown' hgrow _
      have R := own_more (wr := W) (news := [max (8 + r) xt]) (Below.refl _ _) (by omega) HS0.rs hown' hgrow
      obtain ⟨vz, cz, rfl, _⟩ := R.1.form
      have AP := HS0.more R.2 R.1
      exact unhide hK _ _ ⟨u0, true, u2, u3, u4, u5, u6, u7, u8, u9, u10, true, true, u13, false, r, p, vz, cz, rfl, rfl, (fun h => nomatch h), unhide H_b3, (fun _ h => nomatch h), (fun _ _ => ⟨AP.1, AP.2.up (by cases u3 <;> simp <;> omega)⟩), (fun h => nomatch h), unhide H_c1, unhide H_c3, unhide H_c4, unhide H_c6, unhide H_c8, unhide H_c9, unhide H_c10, unhide H_c11, (fun _ => ⟨rfl, rfl⟩), (fun h => nomatch h)⟩
    · intro h0 hd K hK
      have z : u13 = false := h0
      have z14_ : u14 = false := by
        cases hu : u14 with
        | false => rfl
        | true => exact nomatch z.symm.trans ((kF hu).2.2.2.2.2.2.2.2.2.2.2.2.2)
      have H_kS := hide kS
      have H_b3 := hide b3
      have H_q11 := hide q11
      have H_kM := hide kM
      have H_kZ := hide kZ
      have H_c1 := hide c1
      have H_c3 := hide c3
      have H_c4 := hide c4
      have H_c6 := hide c6
      have H_c8 := hide c8
      have H_c9 := hide c9
      have H_c10 := hide c10
      have H_c11 := hide c11
      have H_c12 := hide c12
      have H_kF := hide kF
      clear kS b3 q11 kM kZ c1 c3 c4 c6 c8 c9 c10 c11 c12 kF
      subst z14_
      subst z
      clear h0 hd
      rw [if_pos (by rfl)]
      go_simp
      exact unhide hK _ _ ⟨u0, u1, u2, u3, u4, u5, u6, u7, u8, u9, u10, u11, u12, true, false, r, p, vq, cq, rfl, rfl, unhide H_kS, unhide H_b3, unhide H_q11, unhide H_kM, (fun h => nomatch h), unhide H_c1, unhide H_c3, unhide H_c4, unhide H_c6, unhide H_c8, unhide H_c9, unhide H_c10, unhide H_c11, unhide H_c12, (fun h => nomatch h)⟩
    · intro h0 hd K hK
      have z : u14 = false := h0
      have zd : u12 = true ∧ u13 = true ∧ u0 = true ∧ u1 = true ∧ u2 = true ∧ u3 = true ∧ u4 = true ∧ u5 = true ∧ u6 = true ∧ u7 = true ∧ u8 = true ∧ u9 = true ∧ u10 = true ∧ u11 = true := by
        simp [Region.binds] at hd
        simp_all
      have H_kS := hide kS
      have H_b3 := hide b3
      have H_q11 := hide q11
      have H_kM := hide kM
      have H_kZ := hide kZ
      have H_c1 := hide c1
      have H_c3 := hide c3
      have H_c4 := hide c4
      have H_c6 := hide c6
      have H_c8 := hide c8
      have H_c9 := hide c9
      have H_c10 := hide c10
      have H_c11 := hide c11
      have H_c12 := hide c12
      have H_kF := hide kF
      clear kS b3 q11 kM kZ c1 c3 c4 c6 c8 c9 c10 c11 c12 kF
      obtain ⟨rfl, rfl, rfl, rfl, rfl, rfl, rfl, rfl, rfl, rfl, rfl, rfl, rfl, rfl⟩ := zd
      subst z
      clear h0 hd
      rw [if_pos (by rfl)]
      have v8 := (unhide H_kM rfl rfl).1
      have cc := v8.cell (m := 2) rfl
      have cf := v8.frozen
      have clt := v8.lt
      clear v8
      go_simp
      exact unhide hK _ _ ⟨true, true, true, true, true, true, true, true, true, true, true, true, true, true, true, r, p, vq, cq, rfl, rfl, (fun h => nomatch h), unhide H_b3, (fun _ h => nomatch h), (fun _ h => nomatch h), (fun _ => (unhide H_kM rfl rfl).2), (fun _ => rfl), (fun _ => rfl), (fun _ => rfl), (fun _ => rfl), (fun _ => ⟨rfl, rfl⟩), (fun _ => rfl), (fun _ => ⟨rfl, rfl⟩), (fun _ => rfl), (fun _ => ⟨rfl, rfl⟩), (fun _ => ⟨rfl, rfl, rfl, rfl, rfl, rfl, rfl, rfl, rfl, rfl, rfl, rfl, rfl, rfl⟩)⟩
  case hend =>
    rintro Lb A W ⟨u0, u1, u2, u3, u4, u5, u6, u7, u8, u9, u10, u11, u12, u13, u14, r, p, vq, cq, rfl, rfl, kS, b3, q11, kM, kZ, c1, c3, c4, c6, c8, c9, c10, c11, c12, kF⟩ hL
    have hl : u0 = true ∧ u1 = true ∧ u2 = true ∧ u3 = true ∧ u4 = true ∧ u5 = true ∧ u6 = true ∧ u7 = true ∧ u8 = true ∧ u9 = true ∧ u10 = true ∧ u11 = true ∧ u12 = true ∧ u13 = true ∧ u14 = true := by
      have h2 := congrArg Array.toList hL
      simpa [List.replicate] using h2
    obtain ⟨rfl, rfl, rfl, rfl, rfl, rfl, rfl, rfl, rfl, rfl, rfl, rfl, rfl, rfl, rfl⟩ := hl
    exact unhide HQ _ _ _ _ _ _ _ _ _ _ _ _ _ _ _ _ _ _ (kZ rfl)

set_option maxHeartbeats 4000000 in
set_option maxRecDepth 100000 in
theorem jb14 {s1 s2 s3 s4 s5 s6 s9 s10 s11 s12 s13 s14 s15 s16 s17 s18 s19 s20 s21 s22 s23 s24 s25 s26 s27 s28 s29 s30 s31 s32 s33 s34 s35 s36 s37 s38 s39 s40 s41 s42 s43 s44 s45 s46 s47 s48 s49 s50 s51 s52 s53 s54 s55 s56 s57 s58 s59 s60 s61 s62 s63 s64 s65 s66 s67 s68 s69 s70 s71 s72 s73 s74 s75 s76 s77 s78 s79 s80 s81 s82 s83 s84 s85 s86 s87 s88 s89 s90 s91 s92 s93 s94 s95 s96 : Value} {w V : World} {B g b7 q np cp ns cs : Nat} {k Wp Hp Ws Hs : Int} {us : Option Addr} {P S : List Int} {K_ : Act → World → Prop} (hk : k ≤ 900000000) (hnp : np ≤ 576) (hnp1 : 1 ≤ np) (hcp : np ≤ cp) (hcm : cp ≤ 9223372036854775807)
    (H2 : Hid (Jz w B g (k) b7 Wp Hp q np cp P Ws Hs us ns cs S V))
    (hQ : ∀ (y64 y65 y66 y67 y68 y69 y70 y71 y72 y73 y74 y75 y76 : Value) (P2 : List Int) (W' : World), Jz w B g (k + 6) b7 Wp Hp q np cp P2 Ws Hs us ns cs S W' → K_ { tmps := #[.pointer (some ⟨g, 0, none⟩), s1, s2, s3, s4, s5, s6, .pointer (some ⟨b7, 0, none⟩), .pointer (some ⟨b7 + 1, 0, none⟩), s9, s10, s11, s12, s13, s14, s15, s16, s17, s18, s19, s20, s21, s22, s23, s24, s25, s26, s27, s28, s29, s30, s31, s32, s33, s34, s35, s36, s37, s38, s39, s40, s41, s42, s43, s44, s45, s46, s47, s48, s49, s50, s51, s52, s53, s54, s55, s56, s57, s58, s59, s60, s61, s62, s63, y64, y65, y66, y67, y68, y69, y70, y71, y72, y73, y74, y75, y76, s77, s78, s79, s80, s81, s82, s83, s84, s85, s86, s87, s88, s89, s90, s91, s92, s93, s94, s95, s96], defers := [] } W') :
    Go.Code.wp Try.prog (reg34 14) (Only K_) { tmps := #[.pointer (some ⟨g, 0, none⟩), s1, s2, s3, s4, s5, s6, .pointer (some ⟨b7, 0, none⟩), .pointer (some ⟨b7 + 1, 0, none⟩), s9, s10, s11, s12, s13, s14, s15, s16, s17, s18, s19, s20, s21, s22, s23, s24, s25, s26, s27, s28, s29, s30, s31, s32, s33, s34, s35, s36, s37, s38, s39, s40, s41, s42, s43, s44, s45, s46, s47, s48, s49, s50, s51, s52, s53, s54, s55, s56, s57, s58, s59, s60, s61, s62, s63, s64, s65, s66, s67, s68, s69, s70, s71, s72, s73, s74, s75, s76, s77, s78, s79, s80, s81, s82, s83, s84, s85, s86, s87, s88, s89, s90, s91, s92, s93, s94, s95, s96], defers := [] } V := by
  have HQ := hide hQ
  clear hQ
  conv => arg 2; whnf
  refine wp_region_inv2 (fun Lb A W => ∃ (u0 u1 u2 u3 u4 u5 u6 u7 u8 u9 u10 u11 u12 u13 : Bool) (rN : Nat) (sN : Nat) (p : Nat), Lb = #[u0, u1, u2, u3, u4, u5, u6, u7, u8, u9, u10, u11, u12, u13] ∧ A = ({ tmps := #[.pointer (some ⟨g, 0, none⟩), s1, s2, s3, s4, s5, s6, .pointer (some ⟨b7, 0, none⟩), .pointer (some ⟨b7 + 1, 0, none⟩), s9, s10, s11, s12, s13, s14, s15, s16, s17, s18, s19, s20, s21, s22, s23, s24, s25, s26, s27, s28, s29, s30, s31, s32, s33, s34, s35, s36, s37, s38, s39, s40, s41, s42, s43, s44, s45, s46, s47, s48, s49, s50, s51, s52, s53, s54, s55, s56, s57, s58, s59, s60, s61, s62, s63, (bif u0 then .pointer (some ⟨b7, 2, none⟩) else s64), (bif u1 then .slice (some ⟨q, 0, none⟩) np cp else s65), (bif u2 then .pointer (some ⟨g, 0, none⟩) else s66), (bif u3 then .pointer (some ⟨b7, 2, none⟩) else s67), (bif u4 then .slice (some ⟨q, 0, none⟩) np cp else s68), (bif u5 then .int .i64 ((np : Int)) else s69), (bif u6 then .int .i64 ((rN : Int)) else s70), (bif u7 then .slice (some ⟨p, 0, none⟩) 3 3 else s71), (bif u8 then .pointer (some ⟨g, 0, none⟩) else s72), (bif u9 then .int .i64 ((sN : Int)) else s73), (bif u10 then .pointer (some ⟨p, sN, none⟩) else s74), (bif u11 then .int .i64 (gt [24, 25, -1] sN) else s75), (bif u12 then .pointer (some ⟨q, rN, none⟩) else s76), s77, s78, s79, s80, s81, s82, s83, s84, s85, s86, s87, s88, s89, s90, s91, s92, s93, s94, s95, s96], defers := [] } : Act) ∧ (u13 = false → Jz w B g (k + (bif u6 then 3 else 0) + (bif u9 then 3 else 0)) b7 Wp Hp q np cp P Ws Hs us ns cs S W) ∧ (u6 = true → (rN : Int) < (np : Int)) ∧ (u9 = true → (sN : Int) < 3) ∧ (u7 = true → u13 = false → iblk W p 3 [24, 25, -1] ∧ p ≠ g) ∧ (u13 = true → Jz w B g (k + 6) b7 Wp Hp q np cp (P.set rN (gt [24, 25, -1] sN)) Ws Hs us ns cs S W) ∧ (u1 = true → u0 = true) ∧ (u4 = true → u3 = true) ∧ (u5 = true → u4 = true) ∧ (u6 = true → u2 = true ∧ u5 = true) ∧ (u9 = true → u8 = true ∧ u6 = true) ∧ (u10 = true → u7 = true ∧ u9 = true) ∧ (u11 = true → u10 = true) ∧ (u12 = true → u1 = true ∧ u6 = true) ∧ (u13 = true → u0 = true ∧ u1 = true ∧ u2 = true ∧ u3 = true ∧ u4 = true ∧ u5 = true ∧ u6 = true ∧ u7 = true ∧ u8 = true ∧ u9 = true ∧ u10 = true ∧ u11 = true ∧ u12 = true)) (by kernel_rfl) (by kernel_rfl) ?h0 ?hstep ?hend
  case h0 =>
    exact ⟨false, false, false, false, false, false, false, false, false, false, false, false, false, false, 0, 0, 0, rfl, rfl, (fun _ => by simpa using (unhide H2).drew), (fun h => nomatch h), (fun h => nomatch h), (fun h => nomatch h), (fun h => nomatch h), (fun h => nomatch h), (fun h => nomatch h), (fun h => nomatch h), (fun h => nomatch h), (fun h => nomatch h), (fun h => nomatch h), (fun h => nomatch h), (fun h => nomatch h), (fun h => nomatch h)⟩
  case hstep =>
    rintro Lb A W ⟨u0, u1, u2, u3, u4, u5, u6, u7, u8, u9, u10, u11, u12, u13, rN, sN, p, rfl, rfl, kS, b6, b9, q7, kZ, c1, c4, c5, c6, c9, c10, c11, c12, kF⟩
    refine ⟨?_, ?_, ?_, ?_, ?_, ?_, ?_, ?_, ?_, ?_, ?_, ?_, ?_, ?_, trivial⟩
    · intro h0 hd K hK
      have z : u0 = false := h0
      have z13_ : u13 = false := by
        cases hu : u13 with
        | false => rfl
        | true => exact nomatch z.symm.trans ((kF hu).1)
      have H_kS := hide kS
      have H_b6 := hide b6
      have H_b9 := hide b9
      have H_q7 := hide q7
      have H_kZ := hide kZ
      have H_c1 := hide c1
      have H_c4 := hide c4
      have H_c5 := hide c5
      have H_c6 := hide c6
      have H_c9 := hide c9
      have H_c10 := hide c10
      have H_c11 := hide c11
      have H_c12 := hide c12
      have H_kF := hide kF
      clear kS b6 b9 q7 kZ c1 c4 c5 c6 c9 c10 c11 c12 kF
      subst z13_
      subst z
      clear h0 hd
      rw [if_pos (by rfl)]
      go_simp
      exact unhide hK _ _ ⟨true, u1, u2, u3, u4, u5, u6, u7, u8, u9, u10, u11, u12, false, rN, sN, p, rfl, rfl, unhide H_kS, unhide H_b6, unhide H_b9, unhide H_q7, (fun h => nomatch h), (fun h => rfl), unhide H_c4, unhide H_c5, unhide H_c6, unhide H_c9, unhide H_c10, unhide H_c11, unhide H_c12, (fun h => nomatch h)⟩
    · intro h0 hd K hK
      have z : u1 = false := h0
      have z13_ : u13 = false := by
        cases hu : u13 with
        | false => rfl
        | true => exact nomatch z.symm.trans ((kF hu).2.1)
      have zd : u0 = true := by
        simp [Region.binds] at hd
        simp [hd]
      have H_kS := hide kS
      have H_b6 := hide b6
      have H_b9 := hide b9
      have H_q7 := hide q7
      have H_kZ := hide kZ
      have H_c1 := hide c1
      have H_c4 := hide c4
      have H_c5 := hide c5
      have H_c6 := hide c6
      have H_c9 := hide c9
      have H_c10 := hide c10
      have H_c11 := hide c11
      have H_c12 := hide c12
      have H_kF := hide kF
      clear kS b6 b9 q7 kZ c1 c4 c5 c6 c9 c10 c11 c12 kF
      obtain ⟨rfl⟩ := zd
      subst z13_
      subst z
      clear h0 hd
      rw [if_pos (by rfl)]
      have cc := (unhide H_kS rfl).v7.cell (m := 2) rfl
      go_simp
      exact unhide hK _ _ ⟨true, true, u2, u3, u4, u5, u6, u7, u8, u9, u10, u11, u12, false, rN, sN, p, rfl, rfl, unhide H_kS, unhide H_b6, unhide H_b9, unhide H_q7, (fun h => nomatch h), (fun _ => rfl), unhide H_c4, unhide H_c5, unhide H_c6, unhide H_c9, unhide H_c10, unhide H_c11, (fun h => ⟨rfl, (unhide H_c12 h).2⟩), (fun h => nomatch h)⟩
    · intro h0 hd K hK
      have z : u2 = false := h0
      have z13_ : u13 = false := by
        cases hu : u13 with
        | false => rfl
        | true => exact nomatch z.symm.trans ((kF hu).2.2.1)
      have H_kS := hide kS
      have H_b6 := hide b6
      have H_b9 := hide b9
      have H_q7 := hide q7
      have H_kZ := hide kZ
      have H_c1 := hide c1
      have H_c4 := hide c4
      have H_c5 := hide c5
      have H_c6 := hide c6
      have H_c9 := hide c9
      have H_c10 := hide c10
      have H_c11 := hide c11
      have H_c12 := hide c12
      have H_kF := hide kF
      clear kS b6 b9 q7 kZ c1 c4 c5 c6 c9 c10 c11 c12 kF
      subst z13_
      subst z
      clear h0 hd
      rw [if_pos (by rfl)]
      go_simp
      exact unhide hK _ _ ⟨u0, u1, true, u3, u4, u5, u6, u7, u8, u9, u10, u11, u12, false, rN, sN, p, rfl, rfl, unhide H_kS, unhide H_b6, unhide H_b9, unhide H_q7, (fun h => nomatch h), unhide H_c1, unhide H_c4, unhide H_c5, (fun h => ⟨rfl, (unhide H_c6 h).2⟩), unhide H_c9, unhide H_c10, unhide H_c11, unhide H_c12, (fun h => nomatch h)⟩
    · intro h0 hd K hK
      have z : u3 = false := h0
      have z13_ : u13 = false := by
        cases hu : u13 with
        | false => rfl
        | true => exact nomatch z.symm.trans ((kF hu).2.2.2.1)
      have H_kS := hide kS
      have H_b6 := hide b6
      have H_b9 := hide b9
      have H_q7 := hide q7
      have H_kZ := hide kZ
      have H_c1 := hide c1
      have H_c4 := hide c4
      have H_c5 := hide c5
      have H_c6 := hide c6
      have H_c9 := hide c9
      have H_c10 := hide c10
      have H_c11 := hide c11
      have H_c12 := hide c12
      have H_kF := hide kF
      clear kS b6 b9 q7 kZ c1 c4 c5 c6 c9 c10 c11 c12 kF
      subst z13_
      subst z
      clear h0 hd
      rw [if_pos (by rfl)]
      go_simp
      exact unhide hK _ _ ⟨u0, u1, u2, true, u4, u5, u6, u7, u8, u9, u10, u11, u12, false, rN, sN, p, rfl, rfl, unhide H_kS, unhide H_b6, unhide H_b9, unhide H_q7, (fun h => nomatch h), unhide H_c1, (fun h => rfl), unhide H_c5, unhide H_c6, unhide H_c9, unhide H_c10, unhide H_c11, unhide H_c12, (fun h => nomatch h)⟩
    · intro h0 hd K hK
      have z : u4 = false := h0
      have z13_ : u13 = false := by
        cases hu : u13 with
        | false => rfl
        | true => exact nomatch z.symm.trans ((kF hu).2.2.2.2.1)
      have zd : u3 = true := by
        simp [Region.binds] at hd
        simp [hd]
      have H_kS := hide kS
      have H_b6 := hide b6
      have H_b9 := hide b9
      have H_q7 := hide q7
      have H_kZ := hide kZ
      have H_c1 := hide c1
      have H_c4 := hide c4
      have H_c5 := hide c5
      have H_c6 := hide c6
      have H_c9 := hide c9
      have H_c10 := hide c10
      have H_c11 := hide c11
      have H_c12 := hide c12
      have H_kF := hide kF
      clear kS b6 b9 q7 kZ c1 c4 c5 c6 c9 c10 c11 c12 kF
      obtain ⟨rfl⟩ := zd
      subst z13_
      subst z
      clear h0 hd
      rw [if_pos (by rfl)]
      have cc := (unhide H_kS rfl).v7.cell (m := 2) rfl
      go_simp
      exact unhide hK _ _ ⟨u0, u1, u2, true, true, u5, u6, u7, u8, u9, u10, u11, u12, false, rN, sN, p, rfl, rfl, unhide H_kS, unhide H_b6, unhide H_b9, unhide H_q7, (fun h => nomatch h), unhide H_c1, (fun _ => rfl), (fun h => rfl), unhide H_c6, unhide H_c9, unhide H_c10, unhide H_c11, unhide H_c12, (fun h => nomatch h)⟩
    · intro h0 hd K hK
      have z : u5 = false := h0
      have z13_ : u13 = false := by
        cases hu : u13 with
        | false => rfl
        | true => exact nomatch z.symm.trans ((kF hu).2.2.2.2.2.1)
      have zd : u4 = true := by
        simp [Region.binds] at hd
        simp [hd]
      have H_kS := hide kS
      have H_b6 := hide b6
      have H_b9 := hide b9
      have H_q7 := hide q7
      have H_kZ := hide kZ
      have H_c1 := hide c1
      have H_c4 := hide c4
      have H_c5 := hide c5
      have H_c6 := hide c6
      have H_c9 := hide c9
      have H_c10 := hide c10
      have H_c11 := hide c11
      have H_c12 := hide c12
      have H_kF := hide kF
      clear kS b6 b9 q7 kZ c1 c4 c5 c6 c9 c10 c11 c12 kF
      obtain ⟨rfl⟩ := zd
      subst z13_
      subst z
      clear h0 hd
      rw [if_pos (by rfl)]
      go_simp
      exact unhide hK _ _ ⟨u0, u1, u2, u3, true, true, u6, u7, u8, u9, u10, u11, u12, false, rN, sN, p, rfl, rfl, unhide H_kS, unhide H_b6, unhide H_b9, unhide H_q7, (fun h => nomatch h), unhide H_c1, unhide H_c4, (fun _ => rfl), (fun h => ⟨(unhide H_c6 h).1, rfl⟩), unhide H_c9, unhide H_c10, unhide H_c11, unhide H_c12, (fun h => nomatch h)⟩
    · intro h0 hd K hK
      have z : u6 = false := h0
      have z13_ : u13 = false := by
        cases hu : u13 with
        | false => rfl
        | true => exact nomatch z.symm.trans ((kF hu).2.2.2.2.2.2.1)
      have z9_ : u9 = false := by
        cases hu : u9 with
        | false => rfl
        | true => exact nomatch z.symm.trans ((c9 hu).2)
      have z10_ : u10 = false := by
        cases hu : u10 with
        | false => rfl
        | true => exact nomatch z.symm.trans ((c9 (c10 hu).2).2)
      have z11_ : u11 = false := by
        cases hu : u11 with
        | false => rfl
        | true => exact nomatch z.symm.trans ((c9 (c10 (c11 hu)).2).2)
      have z12_ : u12 = false := by
        cases hu : u12 with
        | false => rfl
        | true => exact nomatch z.symm.trans ((c12 hu).2)
      have zd : u2 = true ∧ u5 = true := by
        simp [Region.binds] at hd
        simp [hd]
      have H_kS := hide kS
      have H_b6 := hide b6
      have H_b9 := hide b9
      have H_q7 := hide q7
      have H_kZ := hide kZ
      have H_c1 := hide c1
      have H_c4 := hide c4
      have H_c5 := hide c5
      have H_c6 := hide c6
      have H_c9 := hide c9
      have H_c10 := hide c10
      have H_c11 := hide c11
      have H_c12 := hide c12
      have H_kF := hide kF
      clear kS b6 b9 q7 kZ c1 c4 c5 c6 c9 c10 c11 c12 kF
      obtain ⟨rfl, rfl⟩ := zd
      subst z13_
      subst z9_
      subst z10_
      subst z11_
      subst z12_
      subst z
      clear h0 hd
      rw [if_pos (by rfl)]
      have HSS : Jz w B g (k) b7 Wp Hp q np cp P Ws Hs us ns cs S W := by have := unhide H_kS rfl; simpa using this
      go_simp
      refine (next_any (k := k) (np : Int) HSS.so (by omega) (by omega) (by omega)).mono ?_
      rintro e w8 ⟨r, rfl, hr1, hr2, hs, mv⟩
      obtain ⟨nN, rfl⟩ := Int.eq_ofNat_of_zero_le hr1
      exact unhide hK _ _ ⟨u0, u1, true, u3, u4, true, true, u7, u8, false, false, false, false, false, nN, sN, p, rfl, rfl, (fun _ => by have := HSS.step hs mv; simp; exact this.up (by omega)), (fun _ => hr2), (fun h => nomatch h), (fun h h2 => ⟨(mv.block _ (unhide H_q7 h h2).1.lt (unhide H_q7 h h2).2).trans (unhide H_q7 h h2).1, (unhide H_q7 h h2).2⟩), (fun h => nomatch h), unhide H_c1, unhide H_c4, unhide H_c5, (fun _ => ⟨rfl, rfl⟩), (fun h => nomatch h), (fun h => nomatch h), (fun h => nomatch h), (fun h => nomatch h), (fun h => nomatch h)⟩
    · intro h0 hd K hK
      have z : u7 = false := h0
      have z13_ : u13 = false := by
        cases hu : u13 with
        | false => rfl
        | true => exact nomatch z.symm.trans ((kF hu).2.2.2.2.2.2.2.1)
      have z10_ : u10 = false := by
        cases hu : u10 with
        | false => rfl
        | true => exact nomatch z.symm.trans ((c10 hu).1)
      have z11_ : u11 = false := by
        cases hu : u11 with
        | false => rfl
        | true => exact nomatch z.symm.trans ((c10 (c11 hu)).1)
      have H_kS := hide kS
      have H_b6 := hide b6
      have H_b9 := hide b9
      have H_q7 := hide q7
      have H_kZ := hide kZ
      have H_c1 := hide c1
      have H_c4 := hide c4
      have H_c5 := hide c5
      have H_c6 := hide c6
      have H_c9 := hide c9
      have H_c10 := hide c10
      have H_c11 := hide c11
      have H_c12 := hide c12
      have H_kF := hide kF
      clear kS b6 b9 q7 kZ c1 c4 c5 c6 c9 c10 c11 c12 kF
      subst z13_
      subst z10_
      subst z11_
      subst z
      clear h0 hd
      rw [if_pos (by rfl)]
      go_simp
      exact unhide hK _ _ ⟨u0, u1, u2, u3, u4, u5, u6, true, u8, u9, false, false, u12, false, rN, sN, W.heap.size, rfl, rfl, (fun _ => (unhide H_kS rfl).alloc _), unhide H_b6, unhide H_b9, (fun _ _ => ⟨heap_alloc_new W _, by have := (unhide H_kS rfl).so.lt; omega⟩), (fun h => nomatch h), unhide H_c1, unhide H_c4, unhide H_c5, unhide H_c6, unhide H_c9, (fun h => nomatch h), (fun h => nomatch h), unhide H_c12, (fun h => nomatch h)⟩
    · intro h0 hd K hK
      have z : u8 = false := h0
      have z13_ : u13 = false := by
        cases hu : u13 with
        | false => rfl
        | true => exact nomatch z.symm.trans ((kF hu).2.2.2.2.2.2.2.2.1)
      have H_kS := hide kS
      have H_b6 := hide b6
      have H_b9 := hide b9
      have H_q7 := hide q7
      have H_kZ := hide kZ
      have H_c1 := hide c1
      have H_c4 := hide c4
      have H_c5 := hide c5
      have H_c6 := hide c6
      have H_c9 := hide c9
      have H_c10 := hide c10
      have H_c11 := hide c11
      have H_c12 := hide c12
      have H_kF := hide kF
      clear kS b6 b9 q7 kZ c1 c4 c5 c6 c9 c10 c11 c12 kF
      subst z13_
      subst z
      clear h0 hd
      rw [if_pos (by rfl)]
      go_simp
      exact unhide hK _ _ ⟨u0, u1, u2, u3, u4, u5, u6, u7, true, u9, u10, u11, u12, false, rN, sN, p, rfl, rfl, unhide H_kS, unhide H_b6, unhide H_b9, unhide H_q7, (fun h => nomatch h), unhide H_c1, unhide H_c4, unhide H_c5, unhide H_c6, (fun h => ⟨rfl, (unhide H_c9 h).2⟩), unhide H_c10, unhide H_c11, unhide H_c12, (fun h => nomatch h)⟩
    · intro h0 hd K hK
      have z : u9 = false := h0
      have z13_ : u13 = false := by
        cases hu : u13 with
        | false => rfl
        | true => exact nomatch z.symm.trans ((kF hu).2.2.2.2.2.2.2.2.2.1)
      have z10_ : u10 = false := by
        cases hu : u10 with
        | false => rfl
        | true => exact nomatch z.symm.trans ((c10 hu).2)
      have z11_ : u11 = false := by
        cases hu : u11 with
        | false => rfl
        | true => exact nomatch z.symm.trans ((c10 (c11 hu)).2)
      have zd : u8 = true ∧ u6 = true := by
        simp [Region.binds] at hd
        simp [hd]
      have H_kS := hide kS
      have H_b6 := hide b6
      have H_b9 := hide b9
      have H_q7 := hide q7
      have H_kZ := hide kZ
      have H_c1 := hide c1
      have H_c4 := hide c4
      have H_c5 := hide c5
      have H_c6 := hide c6
      have H_c9 := hide c9
      have H_c10 := hide c10
      have H_c11 := hide c11
      have H_c12 := hide c12
      have H_kF := hide kF
      clear kS b6 b9 q7 kZ c1 c4 c5 c6 c9 c10 c11 c12 kF
      obtain ⟨rfl, rfl⟩ := zd
      subst z13_
      subst z10_
      subst z11_
      subst z
      clear h0 hd
      rw [if_pos (by rfl)]
      have HSS : Jz w B g (k + 3) b7 Wp Hp q np cp P Ws Hs us ns cs S W := by have := unhide H_kS rfl; simpa using this
      go_simp
      refine (next_any (k := k + 3) 3 HSS.so (by omega) (by omega) (by omega)).mono ?_
      rintro e w8 ⟨r, rfl, hr1, hr2, hs, mv⟩
      obtain ⟨nN, rfl⟩ := Int.eq_ofNat_of_zero_le hr1
      exact unhide hK _ _ ⟨u0, u1, u2, u3, u4, u5, true, u7, true, true, false, false, u12, false, rN, nN, p, rfl, rfl, (fun _ => by have := HSS.step hs mv; simp; exact this.up (by omega)), unhide H_b6, (fun _ => hr2), (fun h h2 => ⟨(mv.block _ (unhide H_q7 h h2).1.lt (unhide H_q7 h h2).2).trans (unhide H_q7 h h2).1, (unhide H_q7 h h2).2⟩), (fun h => nomatch h), unhide H_c1, unhide H_c4, unhide H_c5, unhide H_c6, (fun _ => ⟨rfl, rfl⟩), (fun h => nomatch h), (fun h => nomatch h), (fun h => ⟨(unhide H_c12 h).1, rfl⟩), (fun h => nomatch h)⟩
    · intro h0 hd K hK
      have z : u10 = false := h0
      have z13_ : u13 = false := by
        cases hu : u13 with
        | false => rfl
        | true => exact nomatch z.symm.trans ((kF hu).2.2.2.2.2.2.2.2.2.2.1)
      have zd : u7 = true ∧ u9 = true := by
        simp [Region.binds] at hd
        simp [hd]
      have H_kS := hide kS
      have H_b6 := hide b6
      have H_b9 := hide b9
      have H_q7 := hide q7
      have H_kZ := hide kZ
      have H_c1 := hide c1
      have H_c4 := hide c4
      have H_c5 := hide c5
      have H_c6 := hide c6
      have H_c9 := hide c9
      have H_c10 := hide c10
      have H_c11 := hide c11
      have H_c12 := hide c12
      have H_kF := hide kF
      clear kS b6 b9 q7 kZ c1 c4 c5 c6 c9 c10 c11 c12 kF
      obtain ⟨rfl, rfl⟩ := zd
      subst z13_
      subst z
      clear h0 hd
      rw [if_pos (by rfl)]
      have hb := unhide H_b9 rfl
      have o4 : sN < 3 := by omega
      have o5 : (0 : Int) ≤ (sN : Int) := Int.natCast_nonneg _
      go_simp
      exact unhide hK _ _ ⟨u0, u1, u2, u3, u4, u5, u6, true, u8, true, true, u11, u12, false, rN, sN, p, rfl, rfl, unhide H_kS, unhide H_b6, unhide H_b9, unhide H_q7, (fun h => nomatch h), unhide H_c1, unhide H_c4, unhide H_c5, unhide H_c6, unhide H_c9, (fun _ => ⟨rfl, rfl⟩), (fun h => rfl), unhide H_c12, (fun h => nomatch h)⟩
    · intro h0 hd K hK
      have z : u11 = false := h0
      have z13_ : u13 = false := by
        cases hu : u13 with
        | false => rfl
        | true => exact nomatch z.symm.trans ((kF hu).2.2.2.2.2.2.2.2.2.2.2.1)
      have zd : u10 = true := by
        simp [Region.binds] at hd
        simp [hd]
      have H_kS := hide kS
      have H_b6 := hide b6
      have H_b9 := hide b9
      have H_q7 := hide q7
      have H_kZ := hide kZ
      have H_c1 := hide c1
      have H_c4 := hide c4
      have H_c5 := hide c5
      have H_c6 := hide c6
      have H_c9 := hide c9
      have H_c10 := hide c10
      have H_c11 := hide c11
      have H_c12 := hide c12
      have H_kF := hide kF
      clear kS b6 b9 q7 kZ c1 c4 c5 c6 c9 c10 c11 c12 kF
      obtain ⟨rfl⟩ := zd
      subst z13_
      subst z
      clear h0 hd
      rw [if_pos (by rfl)]
      have hb := unhide H_b9 (unhide H_c10 rfl).2
      have cc := (unhide H_q7 (unhide H_c10 rfl).1 rfl).1.cell (gtk_some (show sN < 3 by omega))
      go_simp
      exact unhide hK _ _ ⟨u0, u1, u2, u3, u4, u5, u6, u7, u8, u9, true, true, u12, false, rN, sN, p, rfl, rfl, unhide H_kS, unhide H_b6, unhide H_b9, unhide H_q7, (fun h => nomatch h), unhide H_c1, unhide H_c4, unhide H_c5, unhide H_c6, unhide H_c9, unhide H_c10, (fun _ => rfl), unhide H_c12, (fun h => nomatch h)⟩
    · intro h0 hd K hK
      have z : u12 = false := h0
      have z13_ : u13 = false := by
        cases hu : u13 with
        | false => rfl
        | true => exact nomatch z.symm.trans ((kF hu).2.2.2.2.2.2.2.2.2.2.2.2)
      have zd : u1 = true ∧ u6 = true := by
        simp [Region.binds] at hd
        simp [hd]
      have H_kS := hide kS
      have H_b6 := hide b6
      have H_b9 := hide b9
      have H_q7 := hide q7
      have H_kZ := hide kZ
      have H_c1 := hide c1
      have H_c4 := hide c4
      have H_c5 := hide c5
      have H_c6 := hide c6
      have H_c9 := hide c9
      have H_c10 := hide c10
      have H_c11 := hide c11
      have H_c12 := hide c12
      have H_kF := hide kF
      clear kS b6 b9 q7 kZ c1 c4 c5 c6 c9 c10 c11 c12 kF
      obtain ⟨rfl, rfl⟩ := zd
      subst z13_
      subst z
      clear h0 hd
      rw [if_pos (by rfl)]
      have hb := unhide H_b6 rfl
      have o5 : (0 : Int) ≤ (rN : Int) := Int.natCast_nonneg _
      go_simp
      exact unhide hK _ _ ⟨u0, true, u2, u3, u4, u5, true, u7, u8, u9, u10, u11, true, false, rN, sN, p, rfl, rfl, unhide H_kS, unhide H_b6, unhide H_b9, unhide H_q7, (fun h => nomatch h), unhide H_c1, unhide H_c4, unhide H_c5, unhide H_c6, (fun h => ⟨(unhide H_c9 h).1, rfl⟩), unhide H_c10, unhide H_c11, (fun _ => ⟨rfl, rfl⟩), (fun h => nomatch h)⟩
    · intro h0 hd K hK
      have z : u13 = false := h0
      have zd : u11 = true ∧ u12 = true ∧ u0 = true ∧ u1 = true ∧ u2 = true ∧ u3 = true ∧ u4 = true ∧ u5 = true ∧ u6 = true ∧ u7 = true ∧ u8 = true ∧ u9 = true ∧ u10 = true := by
        simp [Region.binds] at hd
        simp_all
      have H_kS := hide kS
      have H_b6 := hide b6
      have H_b9 := hide b9
      have H_q7 := hide q7
      have H_kZ := hide kZ
      have H_c1 := hide c1
      have H_c4 := hide c4
      have H_c5 := hide c5
      have H_c6 := hide c6
      have H_c9 := hide c9
      have H_c10 := hide c10
      have H_c11 := hide c11
      have H_c12 := hide c12
      have H_kF := hide kF
      clear kS b6 b9 q7 kZ c1 c4 c5 c6 c9 c10 c11 c12 kF
      obtain ⟨rfl, rfl, rfl, rfl, rfl, rfl, rfl, rfl, rfl, rfl, rfl, rfl, rfl⟩ := zd
      subst z
      clear h0 hd
      rw [if_pos (by rfl)]
      have HSS := unhide H_kS rfl
      have hb := unhide H_b6 rfl
      obtain ⟨xo, hxo⟩ : ∃ xo, P[rN]? = some xo := ⟨_, List.getElem?_eq_getElem (by have := HSS.rp.len; omega)⟩
      have cq := HSS.rp.cellAt hxo
      have fq := HSS.rp.frz
      have HS5 := hide HSS
      clear HSS hxo
      go_simp
      exact unhide hK _ _ ⟨true, true, true, true, true, true, true, true, true, true, true, true, true, true, rN, sN, p, rfl, rfl, (fun h => nomatch h), unhide H_b6, unhide H_b9, (fun _ h => nomatch h), (fun _ => ((unhide HS5).put (by omega) (gt [24, 25, -1] sN)).up (by simp; omega)), (fun _ => rfl), (fun _ => rfl), (fun _ => rfl), (fun _ => ⟨rfl, rfl⟩), (fun _ => ⟨rfl, rfl⟩), (fun _ => ⟨rfl, rfl⟩), (fun _ => rfl), (fun _ => ⟨rfl, rfl⟩), (fun _ => ⟨rfl, rfl, rfl, rfl, rfl, rfl, rfl, rfl, rfl, rfl, rfl, rfl, rfl⟩)⟩
  case hend =>
    rintro Lb A W ⟨u0, u1, u2, u3, u4, u5, u6, u7, u8, u9, u10, u11, u12, u13, rN, sN, p, rfl, rfl, kS, b6, b9, q7, kZ, c1, c4, c5, c6, c9, c10, c11, c12, kF⟩ hL
    have hl : u0 = true ∧ u1 = true ∧ u2 = true ∧ u3 = true ∧ u4 = true ∧ u5 = true ∧ u6 = true ∧ u7 = true ∧ u8 = true ∧ u9 = true ∧ u10 = true ∧ u11 = true ∧ u12 = true ∧ u13 = true := by
      have h2 := congrArg Array.toList hL
      simpa [List.replicate] using h2
    obtain ⟨rfl, rfl, rfl, rfl, rfl, rfl, rfl, rfl, rfl, rfl, rfl, rfl, rfl, rfl⟩ := hl
    exact unhide HQ _ _ _ _ _ _ _ _ _ _ _ _ _ _ _ (kZ rfl)

end Go.Proofs.Ytjhldjojkaphkaa

namespace Go.Proofs.Ytjhldjojkaphkaa
open Go.ChangeShapes Go.WideShapes Go.ChangeAt Go.RowKit
set_option linter.unusedVariables false
set_option linter.unusedSimpArgs false

/-- a slice of numbers that a field has -/
def Fq (X : World) (u : Option Addr) (n c : Nat) (L : List Int) : Prop := L.length = n ∧ n ≤ 576 ∧ (n ≠ 0 → ∃ p po, u = some ⟨p, po, none⟩ ∧ Fd X p po n c L)
theorem Fq.bel {X X' : World} {u : Option Addr} {n c : Nat} {L : List Int} (h : Fq X u n c L) (hb : Below X.heap.size X X') : Fq X' u n c L := ⟨h.1, h.2.1, fun h0 => by obtain ⟨p, po, e, hf⟩ := h.2.2 h0; exact ⟨p, po, e, hf.bel hb⟩⟩
theorem Row.fq {X : World} {B n c : Nat} {u : Option Addr} {L : List Int} (h : Row X B 3 1 (.slice u n c) n L) (hn : n ≤ 576) : Fq X u n c L := by
  refine ⟨by have := h.len; omega, hn, fun h0 => ?_⟩
  obtain ⟨q, cap, hv, _⟩ := h.full h0
  cases hv
  exact ⟨q, 0, rfl, h.fd⟩
theorem Row.fq1 {X : World} {B n c q : Nat} {L : List Int} (h : Row X B 3 1 (.slice (some ⟨q, 0, none⟩) n c) n L) (hn : n ≤ 576) (h1 : 1 ≤ n) : Fq X (some ⟨q, 1, none⟩) (n - 1) (c - 1) (L.drop 1) := by
  have hl := h.len
  have hf := h.fd
  refine ⟨by simp; omega, by omega, fun _ => ⟨q, 1, rfl, hf.lt, ?_, by simp; omega, by have := hf.cap; omega, by have := hf.top; omega⟩⟩
  intro j x hj
  rw [List.getElem?_drop] at hj
  have := hf.ints (1 + j) x hj
  rwa [Nat.zero_add] at this
/-- a block of one's own is written, a slice stays -/
theorem Fq.ne {X : World} {u : Option Addr} {n c b o : Nat} {v : Value} {L : List Int} (h : Fq X u n c L) (hb : ∀ a, u = some a → a.block ≠ b) : Fq (X.setCell ⟨b, o, none⟩ v) u n c L := by
  refine ⟨h.1, h.2.1, fun h0 => ?_⟩
  obtain ⟨p, po, e, hf⟩ := h.2.2 h0
  have hne : p ≠ b := hb _ e
  exact ⟨p, po, e, by simpa [World.setCell] using hf.lt, fun j x hj => (World.cell?_of_block (w := X) (a := ⟨p, po + j, none⟩) (Below.heap_setCell _ _ _ _ hne)).trans (hf.ints j x hj), hf.len, hf.cap, hf.top⟩
/-- what the drawing ends with -/
structure Jend (w : World) (B g : Nat) (k : Int) (b7 : Nat) (Wp Hp : Int) (up : Option Addr) (np cp : Nat) (P : List Int) (Ws Hs : Int) (us : Option Addr) (ns cs : Nat) (S : List Int) (X : World) : Prop where
  so : So B g k X
  mv : Mv g w X
  hg : g < w.heap.size
  v2 : vb X w.heap.size 25 [.int .i64 0, .int .i64 0, .slice none 0 0]
  v3 : vb X (w.heap.size + 1) 25 [.int .i64 0, .int .i64 0, .slice none 0 0]
  v7 : vb X b7 25 [.int .i64 Wp, .int .i64 Hp, .slice up np cp]
  v8 : vb X (b7 + 1) 25 [.int .i64 Ws, .int .i64 Hs, .slice us ns cs]
  fp : Fq X up np cp P
  fs : Fq X us ns cs S
  bp : ∀ a, up = some a → w.heap.size + 2 ≤ a.block
  bs : ∀ a, us = some a → w.heap.size + 2 ≤ a.block
  h7 : w.heap.size + 2 ≤ b7
theorem own_ub {u : Option Addr} {n c : Nat} {X : World} {B : Nat} {L : List Int} (h : Row X B 3 1 (.slice u n c) n L) : ∀ a, u = some a → B ≤ a.block := fun a ha => (World.ownsRow.lt h a.block (by rw [ha]; rfl)).1
theorem Jz.fin {w : World} {B g b7 q np cp ns cs : Nat} {k Wp Hp Ws Hs : Int} {us : Option Addr} {P S : List Int} {X : World} (h : Jz w B g k b7 Wp Hp q np cp P Ws Hs us ns cs S X) (h1 : np ≤ 576) (h2 : ns ≤ 576) : Jend w B g k b7 Wp Hp (some ⟨q, 0, none⟩) np cp P Ws Hs us ns cs S X :=
  ⟨h.so, h.mv, h.hg, h.v2, h.v3, h.v7, h.v8, h.rp.fq h1, h.rs.fq h2, own_ub h.rp, fun a ha => Nat.le_trans (by have := h.h7; omega) (own_ub h.rs a ha), h.h7⟩
theorem Jend.up {w : World} {B g b7 np cp ns cs : Nat} {k Wp Hp Ws Hs : Int} {us up : Option Addr} {P S : List Int} {X : World} {k' : Int} (h : Jend w B g k b7 Wp Hp up np cp P Ws Hs us ns cs S X) (hk : k ≤ k') : Jend w B g k' b7 Wp Hp up np cp P Ws Hs us ns cs S X := ⟨h.so.up hk, h.mv, h.hg, h.v2, h.v3, h.v7, h.v8, h.fp, h.fs, h.bp, h.bs, h.h7⟩
theorem Jend.setW {w : World} {B g b7 np cp ns cs : Nat} {k Wp Hp Ws Hs : Int} {us : Option Addr} {P S : List Int} {X : World} {q : Nat} (h : Jend w B g k b7 Wp Hp (some ⟨q, 0, none⟩) np cp P Ws Hs us ns cs S X) (hq0 : w.heap.size + 2 ≤ q) (hq : q < b7) (hu : ∀ a, us = some a → b7 + 2 ≤ a.block) (x : Int) : Jend w B g k b7 Wp Hp (some ⟨q, 0, none⟩) np cp P x Hs us ns cs S (X.setCell ⟨b7 + 1, 0, none⟩ (.int .i64 x)) := by
  have hg := h.hg; have h7 := h.h7; have hB := h.so.above
  exact ⟨h.so.set (by omega) (by omega) _ _, h.mv.new (by omega) _ _, hg, h.v2.ne (by omega), h.v3.ne (by omega), h.v7.ne (by omega), h.v8.set 0 _, h.fp.ne (fun a ha => by cases ha; show q ≠ b7 + 1; omega), h.fs.ne (fun a ha => by have := hu a ha; omega), h.bp, h.bs, h7⟩
theorem Jend.setH {w : World} {B g b7 np cp ns cs : Nat} {k Wp Hp Ws Hs : Int} {us : Option Addr} {P S : List Int} {X : World} {q : Nat} (h : Jend w B g k b7 Wp Hp (some ⟨q, 0, none⟩) np cp P Ws Hs us ns cs S X) (hq0 : w.heap.size + 2 ≤ q) (hq : q < b7) (hu : ∀ a, us = some a → b7 + 2 ≤ a.block) (x : Int) : Jend w B g k b7 Wp x (some ⟨q, 0, none⟩) np cp P Ws Hs us ns cs S (X.setCell ⟨b7, 1, none⟩ (.int .i64 x)) := by
  have hg := h.hg; have h7 := h.h7; have hB := h.so.above
  exact ⟨h.so.set (by omega) (by omega) _ _, h.mv.new (by omega) _ _, hg, h.v2.ne (by omega), h.v3.ne (by omega), h.v7.set 1 _, h.v8.ne (by omega), h.fp.ne (fun a ha => by cases ha; show q ≠ b7; omega), h.fs.ne (fun a ha => by have := hu a ha; omega), h.bp, h.bs, h7⟩
theorem Jend.setS {w : World} {B g b7 np cp ns cs q qs : Nat} {k Wp Hp Ws Hs : Int} {P S : List Int} {X : World} (h : Jend w B g k b7 Wp Hp (some ⟨q, 0, none⟩) np cp P Ws Hs (some ⟨qs, 0, none⟩) ns cs S X) (hr : Row X (b7 + 2) 3 1 (.slice (some ⟨qs, 0, none⟩) ns cs) ns S) (hn : ns ≤ 576) (h1 : 1 ≤ ns) (hqs : b7 + 2 ≤ qs) (hq : q < b7) : Jend w B g k b7 Wp Hp (some ⟨q, 0, none⟩) np cp P Ws Hs (some ⟨qs, 1, none⟩) (ns - 1) (cs - 1) (S.drop 1) (X.setCell ⟨b7 + 1, 2, none⟩ (.slice (some ⟨qs, 1, none⟩) (ns - 1) (cs - 1))) := by
  have hg := h.hg; have h7 := h.h7; have hB := h.so.above
  have hq2 := h.bp _ rfl
  exact ⟨h.so.set (by omega) (by omega) _ _, h.mv.new (by omega) _ _, hg, h.v2.ne (by omega), h.v3.ne (by omega), h.v7.ne (by omega), h.v8.set 2 _, h.fp.ne (fun a ha => by cases ha; show q ≠ b7 + 1; omega), (hr.fq1 hn h1).ne (fun a ha => by cases ha; show qs ≠ b7 + 1; omega), h.bp, fun a ha => by cases ha; show w.heap.size + 2 ≤ qs; omega, h7⟩
theorem Jend.setN {w : World} {B g b7 np cp ns cs q qs : Nat} {k Wp Hp Ws Hs : Int} {P S : List Int} {X : World} (h : Jend w B g k b7 Wp Hp (some ⟨q, 0, none⟩) np cp P Ws Hs (some ⟨qs, 0, none⟩) ns cs S X) (hr : Row X (b7 + 2) 3 1 (.slice (some ⟨qs, 0, none⟩) ns cs) ns S) (hn : ns ≤ 576) (h1 : ns = 1) (hqs : b7 + 2 ≤ qs) (hq : q < b7) : Jend w B g k b7 Wp Hp (some ⟨q, 0, none⟩) np cp P Ws Hs (some ⟨qs, 0, none⟩) (ns - 1) 0 (S.drop 1) (X.setCell ⟨b7 + 1, 2, none⟩ (.slice (some ⟨qs, 0, none⟩) (ns - 1) 0)) := by
  have hg := h.hg; have h7 := h.h7; have hB := h.so.above
  have hq2 := h.bp _ rfl
  have hl := hr.len
  exact ⟨h.so.set (by omega) (by omega) _ _, h.mv.new (by omega) _ _, hg, h.v2.ne (by omega), h.v3.ne (by omega), h.v7.ne (by omega), h.v8.set 2 _, h.fp.ne (fun a ha => by cases ha; show q ≠ b7 + 1; omega), ⟨by simp; omega, by omega, fun h0 => absurd (by omega) h0⟩, h.bp, fun a ha => by cases ha; show w.heap.size + 2 ≤ qs; omega, h7⟩
def JQ (w : World) (B g : Nat) (k : Int) (e : Ending) (w' : World) : Prop := ∃ (Ws Hs : Int) (us : Option Addr) (ns cs : Nat) (S : List Int) (Wp Hp : Int) (up : Option Addr) (np cp : Nat) (P : List Int) (R : Int),
  e = .returned (.tuple #[.agg #[.int .i64 Ws, .int .i64 Hs, .slice us ns cs], .agg #[.int .i64 Wp, .int .i64 Hp, .slice up np cp], .int .i64 R]) ∧ Fq w' us ns cs S ∧ Fq w' up np cp P ∧ So B g (k + 9000) w' ∧ Mv g w w' ∧ (∀ a, us = some a → w.heap.size ≤ a.block) ∧ (∀ a, up = some a → w.heap.size ≤ a.block)
set_option maxHeartbeats 4000000 in
set_option maxRecDepth 100000 in
theorem jb21 {s0 s1 s4 s5 s6 s9 s11 s12 s13 s14 s15 s16 s17 s18 s19 s20 s21 s22 s23 s24 s25 s26 s27 s28 s29 s30 s31 s32 s33 s34 s35 s36 s37 s38 s39 s40 s41 s42 s43 s44 s45 s46 s47 s48 s49 s50 s51 s52 s53 s54 s55 s56 s57 s58 s59 s60 s61 s62 s63 s64 s65 s66 s67 s68 s69 s70 s71 s72 s73 s74 s75 s76 s77 s78 s79 s80 s81 s82 s83 s84 s85 s86 s87 s88 s89 s90 s91 s92 s93 s94 s95 s96 : Value} {w V : World} {B g b7 np cp ns cs : Nat} {k Wp Hp Ws Hs R : Int} {us up : Option Addr} {P S : List Int} {K_ : Act → World → Prop}
    (H2 : Hid (Jend w B g k b7 Wp Hp up np cp P Ws Hs us ns cs S V))
    (hQ : ∀ (y94 y95 y96 : Value) (W' : World), So B g k W' → Mv g w W' → Fq W' up np cp P → Fq W' us ns cs S → vb W' w.heap.size 25 [.int .i64 Ws, .int .i64 Hs, .slice us ns cs] → vb W' (w.heap.size + 1) 25 [.int .i64 Wp, .int .i64 Hp, .slice up np cp] → K_ { tmps := #[s0, s1, .pointer (some ⟨w.heap.size, 0, none⟩), .pointer (some ⟨w.heap.size + 1, 0, none⟩), .int .i64 (R), s5, s6, .pointer (some ⟨b7, 0, none⟩), .pointer (some ⟨b7 + 1, 0, none⟩), s9, .int .i64 (R), s11, s12, s13, s14, s15, s16, s17, s18, s19, s20, s21, s22, s23, s24, s25, s26, s27, s28, s29, s30, s31, s32, s33, s34, s35, s36, s37, s38, s39, s40, s41, s42, s43, s44, s45, s46, s47, s48, s49, s50, s51, s52, s53, s54, s55, s56, s57, s58, s59, s60, s61, s62, s63, s64, s65, s66, s67, s68, s69, s70, s71, s72, s73, s74, s75, s76, s77, s78, s79, s80, s81, s82, s83, s84, s85, s86, s87, s88, s89, s90, s91, s92, s93, y94, y95, y96], defers := [] } W') :
    Go.Code.wp Try.prog (reg34 21) (Only K_) { tmps := #[s0, s1, .pointer (some ⟨w.heap.size, 0, none⟩), .pointer (some ⟨w.heap.size + 1, 0, none⟩), s4, s5, s6, .pointer (some ⟨b7, 0, none⟩), .pointer (some ⟨b7 + 1, 0, none⟩), s9, .int .i64 (R), s11, s12, s13, s14, s15, s16, s17, s18, s19, s20, s21, s22, s23, s24, s25, s26, s27, s28, s29, s30, s31, s32, s33, s34, s35, s36, s37, s38, s39, s40, s41, s42, s43, s44, s45, s46, s47, s48, s49, s50, s51, s52, s53, s54, s55, s56, s57, s58, s59, s60, s61, s62, s63, s64, s65, s66, s67, s68, s69, s70, s71, s72, s73, s74, s75, s76, s77, s78, s79, s80, s81, s82, s83, s84, s85, s86, s87, s88, s89, s90, s91, s92, s93, s94, s95, s96], defers := [] } V := by
  have HQ := hide hQ
  have hg := (unhide H2).hg
  have hB := (unhide H2).so.above
  have h7 := (unhide H2).h7
  have l0 : B ≤ w.heap.size := by omega
  have l1 : B ≤ w.heap.size + 1 := by omega
  have g0 : w.heap.size ≠ g := by omega
  have g1 : w.heap.size + 1 ≠ g := by omega
  have m0 : w.heap.size ≤ w.heap.size := Nat.le_refl _
  have m1 : w.heap.size ≤ w.heap.size + 1 := Nat.le_succ _
  have n70 : b7 ≠ w.heap.size := by omega
  have n71 : b7 ≠ w.heap.size + 1 := by omega
  have n80 : b7 + 1 ≠ w.heap.size := by omega
  have n81 : b7 + 1 ≠ w.heap.size + 1 := by omega
  have e0 : w.heap.size ≠ w.heap.size + 1 := by omega
  have e1 : w.heap.size + 1 ≠ w.heap.size := by omega
  have bp0 : ∀ a, up = some a → a.block ≠ w.heap.size := fun a ha => by have := (unhide H2).bp a ha; omega
  have bp1 : ∀ a, up = some a → a.block ≠ w.heap.size + 1 := fun a ha => by have := (unhide H2).bp a ha; omega
  have bs0 : ∀ a, us = some a → a.block ≠ w.heap.size := fun a ha => by have := (unhide H2).bs a ha; omega
  have bs1 : ∀ a, us = some a → a.block ≠ w.heap.size + 1 := fun a ha => by have := (unhide H2).bs a ha; omega
  clear hQ
  conv => arg 2; whnf
  refine wp_region_inv2 (fun Lb A W => ∃ (u0 u1 u2 u3 u4 u5 : Bool) (dd : Nat), Lb = #[u0, u1, u2, u3, u4, u5] ∧ A = ({ tmps := #[s0, s1, .pointer (some ⟨w.heap.size, 0, none⟩), .pointer (some ⟨w.heap.size + 1, 0, none⟩), (bif u5 then .int .i64 (R) else s4), s5, s6, .pointer (some ⟨b7, 0, none⟩), .pointer (some ⟨b7 + 1, 0, none⟩), s9, .int .i64 (R), s11, s12, s13, s14, s15, s16, s17, s18, s19, s20, s21, s22, s23, s24, s25, s26, s27, s28, s29, s30, s31, s32, s33, s34, s35, s36, s37, s38, s39, s40, s41, s42, s43, s44, s45, s46, s47, s48, s49, s50, s51, s52, s53, s54, s55, s56, s57, s58, s59, s60, s61, s62, s63, s64, s65, s66, s67, s68, s69, s70, s71, s72, s73, s74, s75, s76, s77, s78, s79, s80, s81, s82, s83, s84, s85, s86, s87, s88, s89, s90, s91, s92, s93, (bif u0 then .agg #[.int .i64 Ws, .int .i64 Hs, .slice us ns cs] else s94), (bif u1 then .agg #[.int .i64 Wp, .int .i64 Hp, .slice up np cp] else s95), (bif u2 then .int .i64 (R) else s96)], defers := [] } : Act) ∧ (So B g k W ∧ Mv g w W ∧ vb W b7 25 [.int .i64 Wp, .int .i64 Hp, .slice up np cp] ∧ vb W (b7 + 1) 25 [.int .i64 Ws, .int .i64 Hs, .slice us ns cs] ∧ Fq W up np cp P ∧ Fq W us ns cs S) ∧ (u3 = false → vb W w.heap.size 25 [.int .i64 0, .int .i64 0, .slice none 0 0]) ∧ (u3 = true → vb W w.heap.size 25 [.int .i64 Ws, .int .i64 Hs, .slice us ns cs]) ∧ (u4 = false → vb W (w.heap.size + 1) 25 [.int .i64 0, .int .i64 0, .slice none 0 0]) ∧ (u4 = true → vb W (w.heap.size + 1) 25 [.int .i64 Wp, .int .i64 Hp, .slice up np cp]) ∧ (u3 = true → u0 = true) ∧ (u4 = true → u1 = true ∧ u3 = true) ∧ (u5 = true → u0 = true ∧ u1 = true ∧ u2 = true ∧ u3 = true ∧ u4 = true)) (by kernel_rfl) (by kernel_rfl) ?h0 ?hstep ?hend
  case h0 =>
    exact ⟨false, false, false, false, false, false, 0, rfl, rfl, ⟨(unhide H2).so.drew, (unhide H2).mv.drew, (unhide H2).v7, (unhide H2).v8, (unhide H2).fp.bel (Below.drew (Below.refl _ _)), (unhide H2).fs.bel (Below.drew (Below.refl _ _))⟩, (fun _ => (unhide H2).v2), (fun h => nomatch h), (fun _ => (unhide H2).v3), (fun h => nomatch h), (fun h => nomatch h), (fun h => nomatch h), (fun h => nomatch h)⟩
  case hstep =>
    rintro Lb A W ⟨u0, u1, u2, u3, u4, u5, dd, rfl, rfl, kJ, k2, k2b, k3, k3b, c3, c4, kF⟩
    refine ⟨?_, ?_, ?_, ?_, ?_, ?_, trivial⟩
    · intro h0 hd K hK
      have z : u0 = false := h0
      have z5_ : u5 = false := by
        cases hu : u5 with
        | false => rfl
        | true => exact nomatch z.symm.trans ((kF hu).1)
      have z3_ : u3 = false := by
        cases hu : u3 with
        | false => rfl
        | true => exact nomatch z.symm.trans ((c3 hu))
      have z4_ : u4 = false := by
        cases hu : u4 with
        | false => rfl
        | true => exact nomatch z.symm.trans ((c3 (c4 hu).2))
      have H_kJ := hide kJ
      have H_k2 := hide k2
      have H_k2b := hide k2b
      have H_k3 := hide k3
      have H_k3b := hide k3b
      have H_c3 := hide c3
      have H_c4 := hide c4
      have H_kF := hide kF
      clear kJ k2 k2b k3 k3b c3 c4 kF
      subst z5_
      subst z3_
      subst z4_
      subst z
      clear h0 hd
      rw [if_pos (by rfl)]
      have v1 := (unhide H_kJ).2.2.2.1
      have q0 := v1.cell (m := 0) rfl
      have q1 := v1.cell (m := 1) rfl
      have q2 := v1.cell (m := 2) rfl
      clear v1
      go_simp
      exact unhide hK _ _ ⟨true, u1, u2, false, false, false, dd, rfl, rfl, unhide H_kJ, unhide H_k2, (fun h => nomatch h), unhide H_k3, unhide H_k3b, (fun h => nomatch h), (fun h => nomatch h), (fun h => nomatch h)⟩
    · intro h0 hd K hK
      have z : u1 = false := h0
      have z5_ : u5 = false := by
        cases hu : u5 with
        | false => rfl
        | true => exact nomatch z.symm.trans ((kF hu).2.1)
      have z4_ : u4 = false := by
        cases hu : u4 with
        | false => rfl
        | true => exact nomatch z.symm.trans ((c4 hu).1)
      have H_kJ := hide kJ
      have H_k2 := hide k2
      have H_k2b := hide k2b
      have H_k3 := hide k3
      have H_k3b := hide k3b
      have H_c3 := hide c3
      have H_c4 := hide c4
      have H_kF := hide kF
      clear kJ k2 k2b k3 k3b c3 c4 kF
      subst z5_
      subst z4_
      subst z
      clear h0 hd
      rw [if_pos (by rfl)]
      have v1 := (unhide H_kJ).2.2.1
      have q0 := v1.cell (m := 0) rfl
      have q1 := v1.cell (m := 1) rfl
      have q2 := v1.cell (m := 2) rfl
      clear v1
      go_simp
      exact unhide hK _ _ ⟨u0, true, u2, u3, false, false, dd, rfl, rfl, unhide H_kJ, unhide H_k2, unhide H_k2b, unhide H_k3, (fun h => nomatch h), unhide H_c3, (fun h => nomatch h), (fun h => nomatch h)⟩
    · intro h0 hd K hK
      have z : u2 = false := h0
      have z5_ : u5 = false := by
        cases hu : u5 with
        | false => rfl
        | true => exact nomatch z.symm.trans ((kF hu).2.2.1)
      have H_kJ := hide kJ
      have H_k2 := hide k2
      have H_k2b := hide k2b
      have H_k3 := hide k3
      have H_k3b := hide k3b
      have H_c3 := hide c3
      have H_c4 := hide c4
      have H_kF := hide kF
      clear kJ k2 k2b k3 k3b c3 c4 kF
      subst z5_
      subst z
      clear h0 hd
      rw [if_pos (by rfl)]
      go_simp
      exact unhide hK _ _ ⟨u0, u1, true, u3, u4, false, dd, rfl, rfl, unhide H_kJ, unhide H_k2, unhide H_k2b, unhide H_k3, unhide H_k3b, unhide H_c3, unhide H_c4, (fun h => nomatch h)⟩
    · intro h0 hd K hK
      have z : u3 = false := h0
      have z5_ : u5 = false := by
        cases hu : u5 with
        | false => rfl
        | true => exact nomatch z.symm.trans ((kF hu).2.2.2.1)
      have z4_ : u4 = false := by
        cases hu : u4 with
        | false => rfl
        | true => exact nomatch z.symm.trans ((c4 hu).2)
      have zd : u0 = true := by
        simp [Region.binds] at hd
        simp [hd]
      have H_kJ := hide kJ
      have H_k2 := hide k2
      have H_k2b := hide k2b
      have H_k3 := hide k3
      have H_k3b := hide k3b
      have H_c3 := hide c3
      have H_c4 := hide c4
      have H_kF := hide kF
      clear kJ k2 k2b k3 k3b c3 c4 kF
      obtain ⟨rfl⟩ := zd
      subst z5_
      subst z4_
      subst z
      clear h0 hd
      rw [if_pos (by rfl)]
      have v1 := unhide H_k2 rfl
      have fz := v1.frozen
      have q0 := v1.cell (m := 0) rfl
      have q1 := v1.cell (m := 1) rfl
      have q2 := v1.cell (m := 2) rfl
      clear v1
      go_simp
      exact unhide hK _ _ ⟨true, u1, u2, true, false, false, dd, rfl, rfl, ⟨(((unhide H_kJ).1.set l0 g0 _ _).set l0 g0 _ _).set l0 g0 _ _, (((unhide H_kJ).2.1.new m0 _ _).new m0 _ _).new m0 _ _, ((((unhide H_kJ).2.2.1).ne n70).ne n70).ne n70, ((((unhide H_kJ).2.2.2.1).ne n80).ne n80).ne n80, ((((unhide H_kJ).2.2.2.2.1).ne bp0).ne bp0).ne bp0, ((((unhide H_kJ).2.2.2.2.2).ne bs0).ne bs0).ne bs0⟩, (fun h => nomatch h), (fun _ => (((unhide H_k2 rfl).set 0 _).set 1 _).set 2 _), (fun h => (((unhide H_k3 h).ne e1).ne e1).ne e1), (fun h => nomatch h), (fun _ => rfl), (fun h => nomatch h), (fun h => nomatch h)⟩
    · intro h0 hd K hK
      have z : u4 = false := h0
      have z5_ : u5 = false := by
        cases hu : u5 with
        | false => rfl
        | true => exact nomatch z.symm.trans ((kF hu).2.2.2.2)
      have zd : u1 = true ∧ u3 = true := by
        simp [Region.binds] at hd
        simp [hd]
      have H_kJ := hide kJ
      have H_k2 := hide k2
      have H_k2b := hide k2b
      have H_k3 := hide k3
      have H_k3b := hide k3b
      have H_c3 := hide c3
      have H_c4 := hide c4
      have H_kF := hide kF
      clear kJ k2 k2b k3 k3b c3 c4 kF
      obtain ⟨rfl, rfl⟩ := zd
      subst z5_
      subst z
      clear h0 hd
      rw [if_pos (by rfl)]
      have v1 := unhide H_k3 rfl
      have fz := v1.frozen
      have q0 := v1.cell (m := 0) rfl
      have q1 := v1.cell (m := 1) rfl
      have q2 := v1.cell (m := 2) rfl
      clear v1
      go_simp
      exact unhide hK _ _ ⟨u0, true, u2, true, true, false, dd, rfl, rfl, ⟨(((unhide H_kJ).1.set l1 g1 _ _).set l1 g1 _ _).set l1 g1 _ _, (((unhide H_kJ).2.1.new m1 _ _).new m1 _ _).new m1 _ _, ((((unhide H_kJ).2.2.1).ne n71).ne n71).ne n71, ((((unhide H_kJ).2.2.2.1).ne n81).ne n81).ne n81, ((((unhide H_kJ).2.2.2.2.1).ne bp1).ne bp1).ne bp1, ((((unhide H_kJ).2.2.2.2.2).ne bs1).ne bs1).ne bs1⟩, (fun h => nomatch h), (fun h => (((unhide H_k2b h).ne e0).ne e0).ne e0), (fun h => nomatch h), (fun _ => (((unhide H_k3 rfl).set 0 _).set 1 _).set 2 _), unhide H_c3, (fun _ => ⟨rfl, rfl⟩), (fun h => nomatch h)⟩
    · intro h0 hd K hK
      have z : u5 = false := h0
      have zd : u2 = true ∧ u4 = true ∧ u0 = true ∧ u1 = true ∧ u3 = true := by
        simp [Region.binds] at hd
        simp_all
      have H_kJ := hide kJ
      have H_k2 := hide k2
      have H_k2b := hide k2b
      have H_k3 := hide k3
      have H_k3b := hide k3b
      have H_c3 := hide c3
      have H_c4 := hide c4
      have H_kF := hide kF
      clear kJ k2 k2b k3 k3b c3 c4 kF
      obtain ⟨rfl, rfl, rfl, rfl, rfl⟩ := zd
      subst z
      clear h0 hd
      rw [if_pos (by rfl)]
      go_simp
      exact unhide hK _ _ ⟨true, true, true, true, true, true, dd, rfl, rfl, unhide H_kJ, unhide H_k2, unhide H_k2b, unhide H_k3, unhide H_k3b, (fun _ => rfl), (fun _ => ⟨rfl, rfl⟩), (fun _ => ⟨rfl, rfl, rfl, rfl, rfl⟩)⟩
  case hend =>
    rintro Lb A W ⟨u0, u1, u2, u3, u4, u5, dd, rfl, rfl, kJ, k2, k2b, k3, k3b, c3, c4, kF⟩ hL
    have hl : u0 = true ∧ u1 = true ∧ u2 = true ∧ u3 = true ∧ u4 = true ∧ u5 = true := by
      have h2 := congrArg Array.toList hL
      simpa [List.replicate] using h2
    obtain ⟨rfl, rfl, rfl, rfl, rfl, rfl⟩ := hl
    exact unhide HQ _ _ _ W kJ.1 kJ.2.1 kJ.2.2.2.2.1 kJ.2.2.2.2.2 (k2b rfl) (k3b rfl)

set_option maxHeartbeats 4000000 in
set_option maxRecDepth 100000 in
theorem job_any {B g : Nat} {k : Int} {w : World} (h : So B g k w) (hk : k ≤ 800000000) :
    Calls Try.prog 32 #[.pointer (some ⟨g, 0, none⟩)] w fun e w' => JQ w B g k e w' := by
  have hg := h.lt
  have hB := h.above
  have hb0 : Below w.heap.size w ((w.alloc (.cells #[.int .i64 0, .int .i64 0, .slice none 0 0] 25)).alloc (.cells #[.int .i64 0, .int .i64 0, .slice none 0 0] 25)) := ba (ba (Below.refl _ _) _) _
  have HS0 := hide (h.bel hb0)
  have HM0 : Hid (Mv g w ((w.alloc (.cells #[.int .i64 0, .int .i64 0, .slice none 0 0] 25)).alloc (.cells #[.int .i64 0, .int .i64 0, .slice none 0 0] 25))) := hide (Mv.of_bel hb0)
  have HV2 := hide (vb_new1 w 25 [.int .i64 0, .int .i64 0, .slice none 0 0] (.cells #[.int .i64 0, .int .i64 0, .slice none 0 0] 25))
  have HV3 := hide (vb_new2 w 25 [.int .i64 0, .int .i64 0, .slice none 0 0] (.cells #[.int .i64 0, .int .i64 0, .slice none 0 0] 25))
  clear h hb0
  go_enter Try.func32, Try.ntmps32
  go_wp2_with fail
  generalize (w.alloc (.cells #[.int .i64 0, .int .i64 0, .slice none 0 0] 25)).alloc (.cells #[.int .i64 0, .int .i64 0, .slice none 0 0] 25) = Wa at *
  refine (size_any 6 (unhide HS0) (by omega) (by omega)).mono ?_
  rintro e W1 ⟨s1, rfl, s10, s11, rfl⟩
  have ws1 : IntKind.i64.wrap (s1 + 2) = s1 + 2 := wrap_i (by omega) (by omega)
  go_wp2_with fail
  refine (next_any (k := k) (s1 + 2) (unhide HS0) (by omega) (by omega) (by omega)).mono ?_
  rintro e W2 ⟨r1, rfl, r10, r11, hs, mv⟩
  have HS1 := hide hs
  have HM1 := hide ((unhide HM0).trans mv)
  have HV2a := hide ((unhide HV2).mv mv (by omega))
  have HV3a := hide ((unhide HV3).mv mv (by omega))
  clear hs mv HS0 HM0 HV2 HV3
  obtain ⟨r1, rfl⟩ := Int.eq_ofNat_of_zero_le r10
  have w1 : IntKind.i64.wrap (1 + (r1 : Int)) = ((r1 + 1 : Nat) : Int) := (wrap_i (by omega) (by omega)).trans (by omega)
  obtain ⟨W, hWe⟩ : ∃ W : Nat, r1 + 1 = W := ⟨_, rfl⟩
  rw [hWe] at w1
  have hW1 : 1 ≤ W := by omega
  have hW : W ≤ 24 := by omega
  clear hWe
  go_wp2_with fail
  refine (size_any 6 (unhide HS1) (by omega) (by omega)).mono ?_
  rintro e W3 ⟨s2, rfl, s20, s21, rfl⟩
  have ws2 : IntKind.i64.wrap (s2 + 2) = s2 + 2 := wrap_i (by omega) (by omega)
  go_wp2_with fail
  refine (next_any (k := k + 3) (s2 + 2) (unhide HS1) (by omega) (by omega) (by omega)).mono ?_
  rintro e W4 ⟨r2, rfl, r20, r21, hs, mv⟩
  have HS2 := hide hs
  have HM2 := hide ((unhide HM1).trans mv)
  have HV2b := hide ((unhide HV2a).mv mv (by omega))
  have HV3b := hide ((unhide HV3a).mv mv (by omega))
  clear hs mv HS1 HM1 HV2a HV3a
  obtain ⟨r2, rfl⟩ := Int.eq_ofNat_of_zero_le r20
  have w2 : IntKind.i64.wrap (1 + (r2 : Int)) = ((r2 + 1 : Nat) : Int) := (wrap_i (by omega) (by omega)).trans (by omega)
  obtain ⟨H, hHe⟩ : ∃ H : Nat, r2 + 1 = H := ⟨_, rfl⟩
  rw [hHe] at w2
  have hH1 : 1 ≤ H := by omega
  have hH : H ≤ 24 := by omega
  clear hHe
  obtain ⟨n, hn⟩ : ∃ n : Nat, n = W * H := ⟨_, rfl⟩
  have hnb : n ≤ 576 := by rw [hn]; exact Nat.mul_le_mul hW hH
  have hn1 : 1 ≤ n := by rw [hn]; exact Nat.mul_pos hW1 hH1
  have wm : IntKind.i64.wrap ((W : Int) * (H : Int)) = (n : Int) := by
    rw [← Int.natCast_mul, ← hn]
    exact Go.IntWalk.i64_in _ ⟨by omega, by omega⟩
  have HN := hide hn
  clear hn
  go_wp2_with fail
  refine (fld_any (k := k + 3 + 3) W H n hW1 hW hH1 hH (unhide HN) (unhide HS2) (by omega)).mono ?_
  rintro e W5 ⟨q, cap, P, rfl, hrp, hs, mv⟩
  have hA : Below W5.heap.size W5 ((W5.alloc (.cells #[.int .i64 (W : Int), .int .i64 (H : Int), .slice (some ⟨q, 0, none⟩) n cap] 25)).alloc (.cells #[.int .i64 (W : Int), .int .i64 (H : Int), .slice none 0 0] 25)) := ba (ba (Below.refl _ _) _) _
  have hs4 : w.heap.size + 2 ≤ W4.heap.size := (unhide HV3b).lt
  have HJ : Hid (Jz w B g (k + 1006) W5.heap.size W H q n cap P W H none 0 0 [] ((W5.alloc (.cells #[.int .i64 (W : Int), .int .i64 (H : Int), .slice (some ⟨q, 0, none⟩) n cap] 25)).alloc (.cells #[.int .i64 (W : Int), .int .i64 (H : Int), .slice none 0 0] 25))) := hide
    ⟨(hs.bel hA).up (by omega), ((unhide HM2).trans mv).call hA, hg, ((unhide HV2b).mv mv (by omega)).bel hA, ((unhide HV3b).mv mv (by omega)).bel hA, vb_new1 W5 25 [.int .i64 (W : Int), .int .i64 (H : Int), .slice (some ⟨q, 0, none⟩) n cap] _, vb_new2 W5 25 [.int .i64 (W : Int), .int .i64 (H : Int), .slice none 0 0] _, (hrp.below hA).mono hs4, ⟨rfl, .inl ⟨rfl, rfl⟩⟩, Nat.le_trans hs4 mv.size, (World.ownsRow.lt hrp q rfl).2⟩
  have hq2 : w.heap.size + 2 ≤ q := Nat.le_trans hs4 hrp.ge
  clear hs mv hA hrp HS2 HM2 HV2b HV3b hs4
  go_upto_region 5 with fail
  generalize (W5.alloc (.cells #[.int .i64 (W : Int), .int .i64 (H : Int), .slice (some ⟨q, 0, none⟩) n cap] 25)).alloc (.cells #[.int .i64 (W : Int), .int .i64 (H : Int), .slice none 0 0] 25) = Wb at *
  generalize W5.heap.size = b7 at *
  go_wp2_with fail
  go_loopw [9] (fun zz X => ∃ (i : Nat) (us : Option Addr) (cs : Nat) (S : List Int), zz = .int .i64 (i : Int) ∧ i ≤ n ∧ Jz w B g (k + 1006 + 3 * (i : Int)) b7 W H q n cap P W H us i cs S X) (fun zz _ => n - (intOf zz).toNat)
  case atStart => exact ⟨0, none, 0, [], rfl, Nat.zero_le _, by simpa using unhide HJ⟩
  case round =>
    obtain ⟨i, us, cs, S, rfl, hii, hz⟩ := hrel
    have HZ := hide hz
    clear hz HJ
    by_cases hc : i < n
    · have lz := decide_eq_true (show (i : Int) < (n : Int) by omega)
      obtain ⟨xt, hxt⟩ : ∃ xt, P[i]? = some xt := ⟨_, List.getElem?_eq_getElem (by have := (unhide HZ).rp.len; omega)⟩
      have HXT := hide hxt
      clear hxt
      go_wp2_with fail
      refine Go.Code.wp_mono (Only.to (fun _ _ h => h)) (jb8 (k := k + 1006 + 3 * (i : Int)) (by omega) hc hnb HXT HZ (fun y37 y38 y39 y40 y41 y42 y43 y44 y45 y46 y47 y48 y49 y50 vq cq z Wc hz => ?_))
      have HZ2 := hide hz
      clear hz HZ
      go_wp2_with fail
      go_roundw
      case rel => exact ⟨i + 1, vq, cq, S ++ [z], by simp, hc, (unhide HZ2).up (by omega)⟩
      case measure => simp only [intOf]; omega
    · have lz : decide ((i : Int) < (n : Int)) = false := decide_eq_false (by omega)
      obtain rfl : i = n := by omega
      have hcapf := (unhide HZ).rp.fd
      have hcap := hcapf.cap
      have hcm := hcapf.top
      clear hcapf
      go_wp2_with fail
      refine (next_any (k := k + 1006 + 3 * (i : Int)) 3 (unhide HZ).so (by omega) (by omega) (by omega)).mono ?_
      rintro e Wc ⟨r, rfl, r0, r1', hs, mv⟩
      have HZ1 := hide ((unhide HZ).step hs mv)
      clear hs mv HZ
      go_wp2_with fail
      refine (next_any (k := k + 1006 + 3 * (i : Int) + 3) 30 (unhide HZ1).so (by omega) (by omega) (by omega)).mono ?_
      rintro e Wd ⟨c30, rfl, c0, c1, hs, mv⟩
      have HZ2 := hide ((unhide HZ1).step hs mv)
      clear hs mv HZ1
      have hc30 : c30 = 0 ∨ c30 = 1 ∨ c30 = 2 ∨ c30 = 3 ∨ c30 = 4 ∨ 5 ≤ c30 := by omega
      rcases hc30 with rfl | rfl | rfl | rfl | rfl | h5
      · -- another tool
        go_wp2_with fail
        refine (next_any (k := k + 1006 + 3 * (i : Int) + 3 + 3) 3 ((unhide HZ2).so.alloc _) (by omega) (by omega) (by omega)).mono ?_
        rintro e We ⟨rt, rfl, t0, t1, hs, mv⟩
        have HZ3 := hide (((unhide HZ2).alloc _).step hs mv)
        have hcl : ∀ j, j < 3 → ∃ x : Int, We.cell? ⟨Wd.heap.size, j, none⟩ = some (.int .i64 x) := by
          intro j hj
          have hlt := (unhide HZ2).so.lt
          have hj' : j = 0 ∨ j = 1 ∨ j = 2 := by omega
          rcases hj' with rfl | rfl | rfl
          · exact ⟨3, mv.cell (by omega) (by simp [go_sem])⟩
          · exact ⟨4, mv.cell (by omega) (by simp [go_sem])⟩
          · exact ⟨-1, mv.cell (by omega) (by simp [go_sem])⟩
        obtain ⟨rt, rfl⟩ := Int.eq_ofNat_of_zero_le t0
        obtain ⟨x, hx⟩ := hcl rt (by omega)
        clear hs mv hcl HZ2
        have HJ := hide (((unhide HZ3).fin hnb hnb).up (k' := k + 8000) (by omega))
        go_wp2_with fail
        refine Go.Code.wp_mono (Only.to (fun _ _ h => h)) (jb21 HJ (fun y94 y95 y96 Wz hso hmv hfp hfs hv2 hv3 => ?_))
        have a0 := hv2.cell (m := 0) rfl
        have a1 := hv2.cell (m := 1) rfl
        have a2 := hv2.cell (m := 2) rfl
        have b0 := hv3.cell (m := 0) rfl
        have b1 := hv3.cell (m := 1) rfl
        have b2 := hv3.cell (m := 2) rfl
        have HE := hide (And.intro hso (And.intro hmv (And.intro hfp hfs)))
        clear hso hmv hfp hfs hv2 hv3
        go_wp2_with fail
        (try rw [Exit.noGoto_ret])
        refine bodyPost_ret (v := .tuple #[.agg #[.int .i64 ((W : Int)), .int .i64 (H : Int), .slice us i cs], .agg #[.int .i64 (W : Int), .int .i64 (H : Int), .slice (some ⟨q, 0, none⟩) i cap], .int .i64 x]) (by simp [results, Try.results32, go_sem, a0, a1, a2, b0, b1, b2]) rfl ?_
        exact ⟨_, _, _, _, _, _, _, _, _, _, _, _, _, rfl, (unhide HE).2.2.2, (unhide HE).2.2.1, (unhide HE).1.up (by omega), (unhide HE).2.1, fun a ha => by have := (unhide HJ).bs a ha; omega, fun a ha => by have := (unhide HJ).bp a ha; omega⟩
      · -- another top
        go_wp2_with fail
        refine Go.Code.wp_mono (Only.to (fun _ _ h => h)) (jb14 (k := k + 1006 + 3 * (i : Int) + 3 + 3) (by omega) hnb hn1 hcap hcm HZ2 (fun y64 y65 y66 y67 y68 y69 y70 y71 y72 y73 y74 y75 y76 P2 We hz => ?_))
        have HJ := hide ((hz.fin hnb hnb).up (k' := k + 8000) (by omega))
        clear hz HZ2
        go_wp2_with fail
        refine Go.Code.wp_mono (Only.to (fun _ _ h => h)) (jb21 HJ (fun y94 y95 y96 Wz hso hmv hfp hfs hv2 hv3 => ?_))
        have a0 := hv2.cell (m := 0) rfl
        have a1 := hv2.cell (m := 1) rfl
        have a2 := hv2.cell (m := 2) rfl
        have b0 := hv3.cell (m := 0) rfl
        have b1 := hv3.cell (m := 1) rfl
        have b2 := hv3.cell (m := 2) rfl
        have HE := hide (And.intro hso (And.intro hmv (And.intro hfp hfs)))
        clear hso hmv hfp hfs hv2 hv3
        go_wp2_with fail
        (try rw [Exit.noGoto_ret])
        refine bodyPost_ret (v := .tuple #[.agg #[.int .i64 ((W : Int)), .int .i64 (H : Int), .slice us i cs], .agg #[.int .i64 (W : Int), .int .i64 (H : Int), .slice (some ⟨q, 0, none⟩) i cap], .int .i64 r]) (by simp [results, Try.results32, go_sem, a0, a1, a2, b0, b1, b2]) rfl ?_
        exact ⟨_, _, _, _, _, _, _, _, _, _, _, _, _, rfl, (unhide HE).2.2.2, (unhide HE).2.2.1, (unhide HE).1.up (by omega), (unhide HE).2.1, fun a ha => by have := (unhide HJ).bs a ha; omega, fun a ha => by have := (unhide HJ).bp a ha; omega⟩
      · -- another W
        have c80 := (unhide HZ2).v8.cell (m := 0) rfl
        have f8 := (unhide HZ2).v8.frozen
        have ww : IntKind.i64.wrap ((W : Int) + 1) = (W : Int) + 1 := wrap_i (by omega) (by omega)
        have HJ : Hid (Jend w B g (k + 8000) b7 W H (some ⟨q, 0, none⟩) i cap P (W + 1) H us i cs S (Wd.setCell ⟨b7 + 1, 0, none⟩ (.int .i64 ((W : Int) + 1)))) := hide (((unhide HZ2).fin hnb hnb).up (k' := k + 8000) (by omega) |>.setW hq2 (unhide HZ2).hq (own_ub (unhide HZ2).rs) _)
        go_wp2_with fail
        first | go_region | skip
        go_wp2_with fail
        refine Go.Code.wp_mono (Only.to (fun _ _ h => h)) (jb21 HJ (fun y94 y95 y96 Wz hso hmv hfp hfs hv2 hv3 => ?_))
        have a0 := hv2.cell (m := 0) rfl
        have a1 := hv2.cell (m := 1) rfl
        have a2 := hv2.cell (m := 2) rfl
        have b0 := hv3.cell (m := 0) rfl
        have b1 := hv3.cell (m := 1) rfl
        have b2 := hv3.cell (m := 2) rfl
        have HE := hide (And.intro hso (And.intro hmv (And.intro hfp hfs)))
        clear hso hmv hfp hfs hv2 hv3
        go_wp2_with fail
        (try rw [Exit.noGoto_ret])
        refine bodyPost_ret (v := .tuple #[.agg #[.int .i64 ((W : Int) + 1), .int .i64 (H : Int), .slice us i cs], .agg #[.int .i64 (W : Int), .int .i64 (H : Int), .slice (some ⟨q, 0, none⟩) i cap], .int .i64 r]) (by simp [results, Try.results32, go_sem, a0, a1, a2, b0, b1, b2]) rfl ?_
        exact ⟨_, _, _, _, _, _, _, _, _, _, _, _, _, rfl, (unhide HE).2.2.2, (unhide HE).2.2.1, (unhide HE).1.up (by omega), (unhide HE).2.1, fun a ha => by have := (unhide HJ).bs a ha; omega, fun a ha => by have := (unhide HJ).bp a ha; omega⟩
      · -- one top less
        obtain ⟨qs, cs', hv, hqs, _, _, hcs, hcsm⟩ := (unhide HZ2).rs.full (by omega)
        cases hv
        have c82 := (unhide HZ2).v8.cell (m := 2) rfl
        have f8 := (unhide HZ2).v8.frozen
        by_cases hc1 : cs = 1
        · have z1 : cs - 1 = 0 := by omega
          have z2 : cs ≤ 1 := by omega
          have HJ : Hid (Jend w B g (k + 8000) b7 W H (some ⟨q, 0, none⟩) i cap P W H (some ⟨qs, 0, none⟩) (i - 1) 0 (S.drop 1) (Wd.setCell ⟨b7 + 1, 2, none⟩ (.slice (some ⟨qs, 0, none⟩) (i - 1) 0))) := hide (((unhide HZ2).fin hnb hnb).up (k' := k + 8000) (by omega) |>.setN (unhide HZ2).rs hnb (by omega) hqs (unhide HZ2).hq)
          go_wp2_with fail
          first | go_region | skip
          go_wp2_with fail
          refine Go.Code.wp_mono (Only.to (fun _ _ h => h)) (jb21 HJ (fun y94 y95 y96 Wz hso hmv hfp hfs hv2 hv3 => ?_))
          have a0 := hv2.cell (m := 0) rfl
          have a1 := hv2.cell (m := 1) rfl
          have a2 := hv2.cell (m := 2) rfl
          have b0 := hv3.cell (m := 0) rfl
          have b1 := hv3.cell (m := 1) rfl
          have b2 := hv3.cell (m := 2) rfl
          have HE := hide (And.intro hso (And.intro hmv (And.intro hfp hfs)))
          clear hso hmv hfp hfs hv2 hv3
          go_wp2_with fail
          (try rw [Exit.noGoto_ret])
          refine bodyPost_ret (v := .tuple #[.agg #[.int .i64 ((W : Int)), .int .i64 (H : Int), .slice (some ⟨qs, 0, none⟩) (i - 1) 0], .agg #[.int .i64 (W : Int), .int .i64 (H : Int), .slice (some ⟨q, 0, none⟩) i cap], .int .i64 r]) (by simp [results, Try.results32, go_sem, a0, a1, a2, b0, b1, b2]) rfl ?_
          exact ⟨_, _, _, _, _, _, _, _, _, _, _, _, _, rfl, (unhide HE).2.2.2, (unhide HE).2.2.1, (unhide HE).1.up (by omega), (unhide HE).2.1, fun a ha => by have := (unhide HJ).bs a ha; omega, fun a ha => by have := (unhide HJ).bp a ha; omega⟩
        · have z1 : ¬ cs - 1 = 0 := by omega
          have z2 : ¬ cs ≤ 1 := by omega
          have HJ : Hid (Jend w B g (k + 8000) b7 W H (some ⟨q, 0, none⟩) i cap P W H (some ⟨qs, 1, none⟩) (i - 1) (cs - 1) (S.drop 1) (Wd.setCell ⟨b7 + 1, 2, none⟩ (.slice (some ⟨qs, 1, none⟩) (i - 1) (cs - 1)))) := hide (((unhide HZ2).fin hnb hnb).up (k' := k + 8000) (by omega) |>.setS (unhide HZ2).rs hnb hn1 hqs (unhide HZ2).hq)
          go_wp2_with fail
          first | go_region | skip
          go_wp2_with fail
          refine Go.Code.wp_mono (Only.to (fun _ _ h => h)) (jb21 HJ (fun y94 y95 y96 Wz hso hmv hfp hfs hv2 hv3 => ?_))
          have a0 := hv2.cell (m := 0) rfl
          have a1 := hv2.cell (m := 1) rfl
          have a2 := hv2.cell (m := 2) rfl
          have b0 := hv3.cell (m := 0) rfl
          have b1 := hv3.cell (m := 1) rfl
          have b2 := hv3.cell (m := 2) rfl
          have HE := hide (And.intro hso (And.intro hmv (And.intro hfp hfs)))
          clear hso hmv hfp hfs hv2 hv3
          go_wp2_with fail
          (try rw [Exit.noGoto_ret])
          refine bodyPost_ret (v := .tuple #[.agg #[.int .i64 ((W : Int)), .int .i64 (H : Int), .slice (some ⟨qs, 1, none⟩) (i - 1) (cs - 1)], .agg #[.int .i64 (W : Int), .int .i64 (H : Int), .slice (some ⟨q, 0, none⟩) i cap], .int .i64 r]) (by simp [results, Try.results32, go_sem, a0, a1, a2, b0, b1, b2]) rfl ?_
          exact ⟨_, _, _, _, _, _, _, _, _, _, _, _, _, rfl, (unhide HE).2.2.2, (unhide HE).2.2.1, (unhide HE).1.up (by omega), (unhide HE).2.1, fun a ha => by have := (unhide HJ).bs a ha; omega, fun a ha => by have := (unhide HJ).bp a ha; omega⟩
      · -- another H
        go_wp2_with fail
        refine (odd_any (k := k + 1006 + 3 * (i : Int) + 3 + 3) (unhide HZ2).so (by omega)).mono ?_
        rintro e We ⟨od, rfl, o0, o1, hs, mv⟩
        have HZ3 := hide ((unhide HZ2).step hs mv)
        clear hs mv HZ2
        have c71 := (unhide HZ3).v7.cell (m := 1) rfl
        have f7 := (unhide HZ3).v7.frozen
        have HJ : Hid (Jend w B g (k + 8000) b7 W od (some ⟨q, 0, none⟩) i cap P W H us i cs S (We.setCell ⟨b7, 1, none⟩ (.int .i64 od))) := hide (((unhide HZ3).fin hnb hnb).up (k' := k + 8000) (by omega) |>.setH hq2 (unhide HZ3).hq (own_ub (unhide HZ3).rs) _)
        go_wp2_with fail
        first | go_region | skip
        go_wp2_with fail
        refine Go.Code.wp_mono (Only.to (fun _ _ h => h)) (jb21 HJ (fun y94 y95 y96 Wz hso hmv hfp hfs hv2 hv3 => ?_))
        have a0 := hv2.cell (m := 0) rfl
        have a1 := hv2.cell (m := 1) rfl
        have a2 := hv2.cell (m := 2) rfl
        have b0 := hv3.cell (m := 0) rfl
        have b1 := hv3.cell (m := 1) rfl
        have b2 := hv3.cell (m := 2) rfl
        have HE := hide (And.intro hso (And.intro hmv (And.intro hfp hfs)))
        clear hso hmv hfp hfs hv2 hv3
        go_wp2_with fail
        (try rw [Exit.noGoto_ret])
        refine bodyPost_ret (v := .tuple #[.agg #[.int .i64 ((W : Int)), .int .i64 (H : Int), .slice us i cs], .agg #[.int .i64 (W : Int), .int .i64 od, .slice (some ⟨q, 0, none⟩) i cap], .int .i64 r]) (by simp [results, Try.results32, go_sem, a0, a1, a2, b0, b1, b2]) rfl ?_
        exact ⟨_, _, _, _, _, _, _, _, _, _, _, _, _, rfl, (unhide HE).2.2.2, (unhide HE).2.2.1, (unhide HE).1.up (by omega), (unhide HE).2.1, fun a ha => by have := (unhide HJ).bs a ha; omega, fun a ha => by have := (unhide HJ).bp a ha; omega⟩
      · -- as it is
        have d0 : (c30 == 0) = false := by rw [beq_eq_false_iff_ne]; omega
        have d1 : (c30 == 1) = false := by rw [beq_eq_false_iff_ne]; omega
        have d2 : (c30 == 2) = false := by rw [beq_eq_false_iff_ne]; omega
        have d3 : (c30 == 3) = false := by rw [beq_eq_false_iff_ne]; omega
        have d4 : (c30 == 4) = false := by rw [beq_eq_false_iff_ne]; omega
        have HJ := hide (((unhide HZ2).fin hnb hnb).up (k' := k + 8000) (by omega))
        go_wp2_with fail
        refine Go.Code.wp_mono (Only.to (fun _ _ h => h)) (jb21 HJ (fun y94 y95 y96 Wz hso hmv hfp hfs hv2 hv3 => ?_))
        have a0 := hv2.cell (m := 0) rfl
        have a1 := hv2.cell (m := 1) rfl
        have a2 := hv2.cell (m := 2) rfl
        have b0 := hv3.cell (m := 0) rfl
        have b1 := hv3.cell (m := 1) rfl
        have b2 := hv3.cell (m := 2) rfl
        have HE := hide (And.intro hso (And.intro hmv (And.intro hfp hfs)))
        clear hso hmv hfp hfs hv2 hv3
        go_wp2_with fail
        (try rw [Exit.noGoto_ret])
        refine bodyPost_ret (v := .tuple #[.agg #[.int .i64 ((W : Int)), .int .i64 (H : Int), .slice us i cs], .agg #[.int .i64 (W : Int), .int .i64 (H : Int), .slice (some ⟨q, 0, none⟩) i cap], .int .i64 r]) (by simp [results, Try.results32, go_sem, a0, a1, a2, b0, b1, b2]) rfl ?_
        exact ⟨_, _, _, _, _, _, _, _, _, _, _, _, _, rfl, (unhide HE).2.2.2, (unhide HE).2.2.1, (unhide HE).1.up (by omega), (unhide HE).2.1, fun a ha => by have := (unhide HJ).bs a ha; omega, fun a ha => by have := (unhide HJ).bp a ha; omega⟩
end Go.Proofs.Ytjhldjojkaphkaa

namespace Go.Proofs.Ytjhldjojkaphkaa
open Go.ChangeShapes Go.WideShapes Go.ChangeAt Go.RowKit
set_option linter.unusedVariables false
set_option linter.unusedSimpArgs false

noncomputable def regJ (id : Nat) : Go.Code := match Try.f7.body with | some c => (regOf id c).getD .skip | none => .skip
set_option maxHeartbeats 4000000 in
set_option maxRecDepth 100000 in
theorem jo7 {s0 s1 s4 s5 s6 s10 s11 s12 s13 s14 s15 s16 s17 s18 s19 s20 s21 s22 s23 s24 s25 s26 s27 s28 s29 s30 s31 s32 : Value} {V : World} {b2 b7 m c n e : Nat} {a0 a1 d0 d1 R : Int} {u v : Option Addr} {K_ : Act → World → Prop} (n70 : b7 ≠ b2) (n71 : b7 ≠ b2 + 1) (n80 : b7 + 1 ≠ b2) (n81 : b7 + 1 ≠ b2 + 1)
    (H7 : Hid (vb V b7 25 [.int .i64 a0, .int .i64 a1, .slice u m c])) (H8 : Hid (vb V (b7 + 1) 25 [.int .i64 d0, .int .i64 d1, .slice v n e])) (H2 : Hid (vb V b2 25 [.int .i64 0, .int .i64 0, .slice none 0 0])) (H3 : Hid (vb V (b2 + 1) 25 [.int .i64 0, .int .i64 0, .slice none 0 0]))
    (hQ : ∀ (y26 y27 y28 : Value) (W' : World), vb W' b2 25 [.int .i64 a0, .int .i64 a1, .slice u m c] → vb W' (b2 + 1) 25 [.int .i64 d0, .int .i64 d1, .slice v n e] → Mq b2 (b2 + 1) V W' → K_ { tmps := #[s0, s1, .pointer (some ⟨b2, 0, none⟩), .pointer (some ⟨b2 + 1, 0, none⟩), .int .i64 (R), s5, s6, .pointer (some ⟨b7, 0, none⟩), .pointer (some ⟨b7 + 1, 0, none⟩), .int .i64 (R), s10, s11, s12, s13, s14, s15, s16, s17, s18, s19, s20, s21, s22, s23, s24, s25, y26, y27, y28, s29, s30, s31, s32], defers := [] } W') :
    Go.Code.wp Try.prog (regJ 7) (Only K_) { tmps := #[s0, s1, .pointer (some ⟨b2, 0, none⟩), .pointer (some ⟨b2 + 1, 0, none⟩), s4, s5, s6, .pointer (some ⟨b7, 0, none⟩), .pointer (some ⟨b7 + 1, 0, none⟩), .int .i64 (R), s10, s11, s12, s13, s14, s15, s16, s17, s18, s19, s20, s21, s22, s23, s24, s25, s26, s27, s28, s29, s30, s31, s32], defers := [] } V := by
  have HQ := hide hQ
  have e0 : b2 ≠ b2 + 1 := by omega
  have e1 : b2 + 1 ≠ b2 := by omega
  clear hQ
  conv => arg 2; whnf
  refine wp_region_inv2 (fun Lb A W => ∃ (u0 u1 u2 u3 u4 u5 : Bool) (dd : Nat), Lb = #[u0, u1, u2, u3, u4, u5] ∧ A = ({ tmps := #[s0, s1, .pointer (some ⟨b2, 0, none⟩), .pointer (some ⟨b2 + 1, 0, none⟩), (bif u5 then .int .i64 (R) else s4), s5, s6, .pointer (some ⟨b7, 0, none⟩), .pointer (some ⟨b7 + 1, 0, none⟩), .int .i64 (R), s10, s11, s12, s13, s14, s15, s16, s17, s18, s19, s20, s21, s22, s23, s24, s25, (bif u0 then .agg #[.int .i64 a0, .int .i64 a1, .slice u m c] else s26), (bif u1 then .agg #[.int .i64 d0, .int .i64 d1, .slice v n e] else s27), (bif u2 then .int .i64 (R) else s28), s29, s30, s31, s32], defers := [] } : Act) ∧ vb W b7 25 [.int .i64 a0, .int .i64 a1, .slice u m c] ∧ vb W (b7 + 1) 25 [.int .i64 d0, .int .i64 d1, .slice v n e] ∧ (u3 = false → vb W b2 25 [.int .i64 0, .int .i64 0, .slice none 0 0]) ∧ (u3 = true → vb W b2 25 [.int .i64 a0, .int .i64 a1, .slice u m c]) ∧ (u4 = false → vb W (b2 + 1) 25 [.int .i64 0, .int .i64 0, .slice none 0 0]) ∧ (u4 = true → vb W (b2 + 1) 25 [.int .i64 d0, .int .i64 d1, .slice v n e]) ∧ Mq b2 (b2 + 1) V W ∧ (u3 = true → u0 = true) ∧ (u4 = true → u1 = true ∧ u3 = true) ∧ (u5 = true → u0 = true ∧ u1 = true ∧ u2 = true ∧ u3 = true ∧ u4 = true)) (by kernel_rfl) (by kernel_rfl) ?h0 ?hstep ?hend
  case h0 =>
    exact ⟨false, false, false, false, false, false, 0, rfl, rfl, unhide H7, unhide H8, (fun _ => unhide H2), (fun h => nomatch h), (fun _ => unhide H3), (fun h => nomatch h), (Mq.of_bel (Below.drew (Below.refl _ _))), (fun h => nomatch h), (fun h => nomatch h), (fun h => nomatch h)⟩
  case hstep =>
    rintro Lb A W ⟨u0, u1, u2, u3, u4, u5, dd, rfl, rfl, k7, k8, k2, k2b, k3, k3b, kM, c3, c4, kF⟩
    refine ⟨?_, ?_, ?_, ?_, ?_, ?_, trivial⟩
    · intro h0 hd K hK
      have z : u0 = false := h0
      have z5_ : u5 = false := by
        cases hu : u5 with
        | false => rfl
        | true => exact nomatch z.symm.trans ((kF hu).1)
      have z3_ : u3 = false := by
        cases hu : u3 with
        | false => rfl
        | true => exact nomatch z.symm.trans ((c3 hu))
      have z4_ : u4 = false := by
        cases hu : u4 with
        | false => rfl
        | true => exact nomatch z.symm.trans ((c3 (c4 hu).2))
      have H_k7 := hide k7
      have H_k8 := hide k8
      have H_k2 := hide k2
      have H_k2b := hide k2b
      have H_k3 := hide k3
      have H_k3b := hide k3b
      have H_kM := hide kM
      have H_c3 := hide c3
      have H_c4 := hide c4
      have H_kF := hide kF
      clear k7 k8 k2 k2b k3 k3b kM c3 c4 kF
      subst z5_
      subst z3_
      subst z4_
      subst z
      clear h0 hd
      rw [if_pos (by rfl)]
      have v1 := unhide H_k7
      have q0 := v1.cell (m := 0) rfl
      have q1 := v1.cell (m := 1) rfl
      have q2 := v1.cell (m := 2) rfl
      clear v1
      go_simp
      exact unhide hK _ _ ⟨true, u1, u2, false, false, false, dd, rfl, rfl, unhide H_k7, unhide H_k8, unhide H_k2, (fun h => nomatch h), unhide H_k3, unhide H_k3b, unhide H_kM, (fun h => nomatch h), (fun h => nomatch h), (fun h => nomatch h)⟩
    · intro h0 hd K hK
      have z : u1 = false := h0
      have z5_ : u5 = false := by
        cases hu : u5 with
        | false => rfl
        | true => exact nomatch z.symm.trans ((kF hu).2.1)
      have z4_ : u4 = false := by
        cases hu : u4 with
        | false => rfl
        | true => exact nomatch z.symm.trans ((c4 hu).1)
      have H_k7 := hide k7
      have H_k8 := hide k8
      have H_k2 := hide k2
      have H_k2b := hide k2b
      have H_k3 := hide k3
      have H_k3b := hide k3b
      have H_kM := hide kM
      have H_c3 := hide c3
      have H_c4 := hide c4
      have H_kF := hide kF
      clear k7 k8 k2 k2b k3 k3b kM c3 c4 kF
      subst z5_
      subst z4_
      subst z
      clear h0 hd
      rw [if_pos (by rfl)]
      have v1 := unhide H_k8
      have q0 := v1.cell (m := 0) rfl
      have q1 := v1.cell (m := 1) rfl
      have q2 := v1.cell (m := 2) rfl
      clear v1
      go_simp
      exact unhide hK _ _ ⟨u0, true, u2, u3, false, false, dd, rfl, rfl, unhide H_k7, unhide H_k8, unhide H_k2, unhide H_k2b, unhide H_k3, (fun h => nomatch h), unhide H_kM, unhide H_c3, (fun h => nomatch h), (fun h => nomatch h)⟩
    · intro h0 hd K hK
      have z : u2 = false := h0
      have z5_ : u5 = false := by
        cases hu : u5 with
        | false => rfl
        | true => exact nomatch z.symm.trans ((kF hu).2.2.1)
      have H_k7 := hide k7
      have H_k8 := hide k8
      have H_k2 := hide k2
      have H_k2b := hide k2b
      have H_k3 := hide k3
      have H_k3b := hide k3b
      have H_kM := hide kM
      have H_c3 := hide c3
      have H_c4 := hide c4
      have H_kF := hide kF
      clear k7 k8 k2 k2b k3 k3b kM c3 c4 kF
      subst z5_
      subst z
      clear h0 hd
      rw [if_pos (by rfl)]
      go_simp
      exact unhide hK _ _ ⟨u0, u1, true, u3, u4, false, dd, rfl, rfl, unhide H_k7, unhide H_k8, unhide H_k2, unhide H_k2b, unhide H_k3, unhide H_k3b, unhide H_kM, unhide H_c3, unhide H_c4, (fun h => nomatch h)⟩
    · intro h0 hd K hK
      have z : u3 = false := h0
      have z5_ : u5 = false := by
        cases hu : u5 with
        | false => rfl
        | true => exact nomatch z.symm.trans ((kF hu).2.2.2.1)
      have z4_ : u4 = false := by
        cases hu : u4 with
        | false => rfl
        | true => exact nomatch z.symm.trans ((c4 hu).2)
      have zd : u0 = true := by
        simp [Region.binds] at hd
        simp [hd]
      have H_k7 := hide k7
      have H_k8 := hide k8
      have H_k2 := hide k2
      have H_k2b := hide k2b
      have H_k3 := hide k3
      have H_k3b := hide k3b
      have H_kM := hide kM
      have H_c3 := hide c3
      have H_c4 := hide c4
      have H_kF := hide kF
      clear k7 k8 k2 k2b k3 k3b kM c3 c4 kF
      obtain ⟨rfl⟩ := zd
      subst z5_
      subst z4_
      subst z
      clear h0 hd
      rw [if_pos (by rfl)]
      have v1 := unhide H_k2 rfl
      have fz := v1.frozen
      have q0 := v1.cell (m := 0) rfl
      have q1 := v1.cell (m := 1) rfl
      have q2 := v1.cell (m := 2) rfl
      clear v1
      go_simp
      exact unhide hK _ _ ⟨true, u1, u2, true, false, false, dd, rfl, rfl, (((unhide H_k7).ne n70).ne n70).ne n70, (((unhide H_k8).ne n80).ne n80).ne n80, (fun h => nomatch h), (fun _ => (((unhide H_k2 rfl).set 0 _).set 1 _).set 2 _), (fun h => (((unhide H_k3 h).ne e1).ne e1).ne e1), (fun h => nomatch h), Mq.setA (Mq.setA (Mq.setA (unhide H_kM) _ _) _ _) _ _, (fun _ => rfl), (fun h => nomatch h), (fun h => nomatch h)⟩
    · intro h0 hd K hK
      have z : u4 = false := h0
      have z5_ : u5 = false := by
        cases hu : u5 with
        | false => rfl
        | true => exact nomatch z.symm.trans ((kF hu).2.2.2.2)
      have zd : u1 = true ∧ u3 = true := by
        simp [Region.binds] at hd
        simp [hd]
      have H_k7 := hide k7
      have H_k8 := hide k8
      have H_k2 := hide k2
      have H_k2b := hide k2b
      have H_k3 := hide k3
      have H_k3b := hide k3b
      have H_kM := hide kM
      have H_c3 := hide c3
      have H_c4 := hide c4
      have H_kF := hide kF
      clear k7 k8 k2 k2b k3 k3b kM c3 c4 kF
      obtain ⟨rfl, rfl⟩ := zd
      subst z5_
      subst z
      clear h0 hd
      rw [if_pos (by rfl)]
      have v1 := unhide H_k3 rfl
      have fz := v1.frozen
      have q0 := v1.cell (m := 0) rfl
      have q1 := v1.cell (m := 1) rfl
      have q2 := v1.cell (m := 2) rfl
      clear v1
      go_simp
      exact unhide hK _ _ ⟨u0, true, u2, true, true, false, dd, rfl, rfl, (((unhide H_k7).ne n71).ne n71).ne n71, (((unhide H_k8).ne n81).ne n81).ne n81, (fun h => nomatch h), (fun h => (((unhide H_k2b h).ne e0).ne e0).ne e0), (fun h => nomatch h), (fun _ => (((unhide H_k3 rfl).set 0 _).set 1 _).set 2 _), Mq.setB (Mq.setB (Mq.setB (unhide H_kM) _ _) _ _) _ _, unhide H_c3, (fun _ => ⟨rfl, rfl⟩), (fun h => nomatch h)⟩
    · intro h0 hd K hK
      have z : u5 = false := h0
      have zd : u2 = true ∧ u4 = true ∧ u0 = true ∧ u1 = true ∧ u3 = true := by
        simp [Region.binds] at hd
        simp_all
      have H_k7 := hide k7
      have H_k8 := hide k8
      have H_k2 := hide k2
      have H_k2b := hide k2b
      have H_k3 := hide k3
      have H_k3b := hide k3b
      have H_kM := hide kM
      have H_c3 := hide c3
      have H_c4 := hide c4
      have H_kF := hide kF
      clear k7 k8 k2 k2b k3 k3b kM c3 c4 kF
      obtain ⟨rfl, rfl, rfl, rfl, rfl⟩ := zd
      subst z
      clear h0 hd
      rw [if_pos (by rfl)]
      go_simp
      exact unhide hK _ _ ⟨true, true, true, true, true, true, dd, rfl, rfl, unhide H_k7, unhide H_k8, unhide H_k2, unhide H_k2b, unhide H_k3, unhide H_k3b, unhide H_kM, (fun _ => rfl), (fun _ => ⟨rfl, rfl⟩), (fun _ => ⟨rfl, rfl, rfl, rfl, rfl⟩)⟩
  case hend =>
    rintro Lb A W ⟨u0, u1, u2, u3, u4, u5, dd, rfl, rfl, k7, k8, k2, k2b, k3, k3b, kM, c3, c4, kF⟩ hL
    have hl : u0 = true ∧ u1 = true ∧ u2 = true ∧ u3 = true ∧ u4 = true ∧ u5 = true := by
      have h2 := congrArg Array.toList hL
      simpa [List.replicate] using h2
    obtain ⟨rfl, rfl, rfl, rfl, rfl, rfl⟩ := hl
    exact unhide HQ _ _ _ W (k2b rfl) (k3b rfl) kM

end Go.Proofs.Ytjhldjojkaphkaa

namespace Go.Proofs.Ytjhldjojkaphkaa
open Go.ChangeShapes Go.WideShapes Go.ChangeAt Go.RowKit
set_option linter.unusedVariables false
set_option linter.unusedSimpArgs false

theorem codeUp {w X : World} {a : Option Addr} {len cap : Nat} {zs : List Int} (h : Code w.heap.size w a len cap zs) (hX : Below w.heap.size w X) : Code X.heap.size X a len cap zs := by
  rcases h with h | ⟨b, off, e, h1, h2, h3, h4, h5, h6, h7⟩
  · exact .inl h
  · exact .inr ⟨b, off, e, Nat.lt_of_lt_of_le h1 hX.size, Nat.lt_of_lt_of_le h1 hX.size, h3, h4, h5, fun i hi => (hX.cell (p := ⟨b, off + i, none⟩) h1).trans (h6 i hi), h7⟩
theorem Fd.mq {a b : Nat} {x y : World} {g po n c : Nat} {L : List Int} (h : Fd x g po n c L) (hm : Mq a b x y) (h1 : g ≠ a) (h2 : g ≠ b) : Fd y g po n c L := ⟨Nat.lt_of_lt_of_le h.lt hm.size, hm.ints h.ints h.lt h1 h2, h.len, h.cap, h.top⟩
theorem Mq.bel4 {a b C : Nat} {x y : World} (h : Mq a b x y) (hC : C ≤ x.heap.size) (h1 : C ≤ a) (h2 : C ≤ b) : Below C x y := ⟨h.os, h.tape, h.output, h.size, fun k hk => h.block k (by omega) (by omega) (by omega)⟩
theorem fd_two {X : World} {b : Nat} {x y : Int} (hb : vb X b 3 [.int .i64 x, .int .i64 y]) : Fd X b 0 2 2 [x, y] := by
  refine ⟨hb.lt, fun j z hj => ?_, rfl, Nat.le_refl _, by omega⟩
  rw [Nat.zero_add]
  match j, hj with
  | 0, hj => simp at hj; subst hj; exact hb.cell (m := 0) rfl
  | 1, hj => simp at hj; subst hj; exact hb.cell (m := 1) rfl
  | j + 2, hj => simp at hj
theorem Fq.its {X : World} {u : Option Addr} {n c : Nat} {L : List Int} (h : Fq X u n c L) : ∃ p po, Its X u p po L := by
  by_cases h0 : n = 0
  · exact ⟨0, 0, fun h1 => absurd (List.eq_nil_of_length_eq_zero (by have := h.1; omega)) h1⟩
  · obtain ⟨p, po, e, hf⟩ := h.2.2 h0
    subst e
    exact ⟨p, po, hf.its⟩
/-- a job that is right -/
structure Jok (X : World) (W H r gs pos cs g po c n : Nat) (S P : List Int) : Prop where
  W1 : 1 ≤ W
  W2 : W ≤ 24
  H1 : 1 ≤ H
  H2 : H ≤ 24
  r3 : r ≤ 3
  n_ : n = W * H
  fs : Fd X gs pos n cs S
  fp : Fd X g po n c P
  st : stB W H S W H P = true
theorem Jok.bel {X X' : World} {W H r gs pos cs g po c n : Nat} {S P : List Int} (h : Jok X W H r gs pos cs g po c n S P) (hb : Below X.heap.size X X') : Jok X' W H r gs pos cs g po c n S P := ⟨h.W1, h.W2, h.H1, h.H2, h.r3, h.n_, h.fs.bel hb, h.fp.bel hb, h.st⟩
theorem st_pair {Ws Hs Wp Hp : Int} {S T : List Int} (h : stB Ws Hs S Wp Hp T = true) : FOk Ws Hs S ∧ FOk Wp Hp T ∧ Ws = Wp ∧ Hs = Hp ∧ ∀ i, i < T.length → tp T i ≤ tp S i := by
  unfold stB pairB at h
  rw [Bool.and_eq_true, decide_eq_true_eq] at h
  exact ⟨h.1.a, h.1.b, h.1.w, h.1.h, under_iff.1 h.2⟩
theorem Jok.oks {X : World} {W H r gs pos cs g po c n : Nat} {S P : List Int} (h : Jok X W H r gs pos cs g po c n S P) : FOk W H S ∧ FOk W H P ∧ ∀ i, i < P.length → tp P i ≤ tp S i := by
  obtain ⟨a, b, _, _, c⟩ := st_pair h.st
  exact ⟨a, b, c⟩
/-- what the pair's test tells -/
theorem jok_of {X : World} {Ws Hs Wp Hp R : Int} {us up : Option Addr} {ns cs np cp : Nat} {S P : List Int} (h1 : Fq X us ns cs S) (h2 : Fq X up np cp P) (h : (stB Ws Hs S Wp Hp P && (decide (0 ≤ R) && decide (R ≤ 3))) = true) :
    ∃ W H r gs pos g po : Nat, Ws = (W : Int) ∧ Hs = (H : Int) ∧ Wp = (W : Int) ∧ Hp = (H : Int) ∧ R = (r : Int) ∧ us = some ⟨gs, pos, none⟩ ∧ up = some ⟨g, po, none⟩ ∧ ns = np ∧ Jok X W H r gs pos cs g po cp ns S P := by
  rw [Bool.and_eq_true, Bool.and_eq_true, decide_eq_true_eq, decide_eq_true_eq] at h
  obtain ⟨hst, hR0, hR1⟩ := h
  obtain ⟨o1, o2, rfl, rfl, _⟩ := st_pair hst
  obtain ⟨a, b, rfl, rfl, ha1, ha2, hb1, hb2, hlen⟩ := o1.nat
  have hl2 : P.length = a * b := by
    obtain ⟨a', b', ea, eb, _, _, _, _, hl'⟩ := o2.nat
    have e1 : a' = a := by omega
    have e2 : b' = b := by omega
    rw [hl', e1, e2]
  have hpos : 0 < a * b := Nat.mul_pos ha1 hb1
  have l1 := h1.1
  have l2 := h2.1
  obtain ⟨gs, pos, e1, f1⟩ := h1.2.2 (by omega)
  obtain ⟨g, po, e2, f2⟩ := h2.2.2 (by omega)
  have hnn : np = ns := by omega
  subst hnn
  exact ⟨a, b, R.toNat, gs, pos, g, po, rfl, rfl, rfl, rfl, by omega, e1, e2, rfl, ha1, ha2, hb1, hb2, by omega, by omega, f1, f2, hst⟩
set_option maxHeartbeats 1000000 in
set_option maxRecDepth 100000 in
theorem jobOf_any (a : Option Addr) (len cap : Nat) (zs : List Int) (w : World) (hc : Code w.heap.size w a len cap zs) (hl : len ≤ 9223372036854775807) :
    Calls Try.prog 7 #[.slice a len cap] w fun e w' => (∃ W H r gs pos cs g po c n S P, e = .returned (.tuple #[.agg #[.int .i64 ((W : Nat) : Int), .int .i64 ((H : Nat) : Int), .slice (some ⟨gs, pos, none⟩) n cs], .agg #[.int .i64 (W : Int), .int .i64 (H : Int), .slice (some ⟨g, po, none⟩) n c], .int .i64 ((r : Nat) : Int)]) ∧ Jok w' W H r gs pos cs g po c n S P) ∧ Below w.heap.size w w' := by
  have hb0 : Below w.heap.size w ((w.alloc (.cells #[.int .i64 0, .int .i64 0, .slice none 0 0] 25)).alloc (.cells #[.int .i64 0, .int .i64 0, .slice none 0 0] 25)) := ba (ba (Below.refl _ _) _) _
  have HB0 := hide hb0
  have HV2 := hide (vb_new1 w 25 [.int .i64 0, .int .i64 0, .slice none 0 0] (.cells #[.int .i64 0, .int .i64 0, .slice none 0 0] 25))
  have HV3 := hide (vb_new2 w 25 [.int .i64 0, .int .i64 0, .slice none 0 0] (.cells #[.int .i64 0, .int .i64 0, .slice none 0 0] 25))
  have HSO : Hid (∀ X, Below w.heap.size w X → Calls Try.prog 31 #[.slice a len cap] X fun e w' => e = .returned (.pointer (some ⟨X.heap.size, 0, none⟩)) ∧ Below X.heap.size X w' ∧ So X.heap.size X.heap.size 0 w') := hide (fun X hX => source_any a len cap zs X (codeUp hc hX) hl)
  clear hc hb0
  go_enter Try.func7, Try.ntmps7
  go_wp2_with fail
  generalize (w.alloc (.cells #[.int .i64 0, .int .i64 0, .slice none 0 0] 25)).alloc (.cells #[.int .i64 0, .int .i64 0, .slice none 0 0] 25) = Wa at *
  refine (unhide HSO _ (unhide HB0)).mono ?_
  rintro e W1 ⟨rfl, hb1, hs1⟩
  have HV2a := hide ((unhide HV2).bel hb1)
  have HV3a := hide ((unhide HV3).bel hb1)
  have HB1 := hide (bc (unhide HB0) hb1)
  have HS1 := hide hs1
  have hga : w.heap.size + 2 ≤ Wa.heap.size := (unhide HV3).lt
  clear hb1 hs1 HV2 HV3 HB0
  generalize Wa.heap.size = gS at *
  go_wp2_with fail
  go_loopw [6] (fun zz X => ∃ i : Nat, zz = .int .i64 (i : Int) ∧ i ≤ 3 ∧ So gS gS (9000 * (i : Int)) X ∧ vb X w.heap.size 25 [.int .i64 0, .int .i64 0, .slice none 0 0] ∧ vb X (w.heap.size + 1) 25 [.int .i64 0, .int .i64 0, .slice none 0 0] ∧ Below w.heap.size w X) (fun zz _ => 3 - (intOf zz).toNat)
  case atStart => exact ⟨0, rfl, by omega, by simpa using unhide HS1, unhide HV2a, unhide HV3a, unhide HB1⟩
  case round =>
    obtain ⟨i, rfl, hi, hso, hv2, hv3, hw⟩ := hrel
    have HS := hide hso
    have H2 := hide hv2
    have H3 := hide hv3
    have HW := hide hw
    clear hso hv2 hv3 hw HS1 HV2a HV3a HB1
    by_cases hc : i < 3
    · have lz := decide_eq_true (show (i : Int) < 3 by omega)
      go_wp2_with fail
      refine (job_any (k := 9000 * (i : Int)) (unhide HS) (by omega)).mono ?_
      rintro e W2 ⟨Ws, Hs, us, ns, cs, S, Wp, Hp, up, np, cp, P, R, rfl, hfs, hfp, hso, hmv, hbs, hbp⟩
      have hA : Below W2.heap.size W2 ((W2.alloc (.cells #[.int .i64 Ws, .int .i64 Hs, .slice us ns cs] 25)).alloc (.cells #[.int .i64 Wp, .int .i64 Hp, .slice up np cp] 25)) := ba (ba (Below.refl _ _) _) _
      have HFS := hide (hfs.bel hA)
      have HFP := hide (hfp.bel hA)
      have HSn := hide (hso.bel hA)
      have H2n := hide (((unhide H2).mv hmv (by omega)).bel hA)
      have H3n := hide (((unhide H3).mv hmv (by omega)).bel hA)
      have hsz2 := (unhide HW).size
      have HWn := hide (bc ((unhide HW).trans (Mv.bel (Below.refl _ _) hmv (by omega) hsz2)) hA)
      have H7 := hide (vb_new1 W2 25 [.int .i64 Ws, .int .i64 Hs, .slice us ns cs] (.cells #[.int .i64 Wp, .int .i64 Hp, .slice up np cp] 25))
      have H8 := hide (vb_new2 W2 25 [.int .i64 Wp, .int .i64 Hp, .slice up np cp] (.cells #[.int .i64 Ws, .int .i64 Hs, .slice us ns cs] 25))
      have hs2 : w.heap.size + 2 ≤ W2.heap.size := Nat.le_trans (unhide H3).lt hmv.size
      have hs3 : w.heap.size + 2 ≤ wr.heap.size := (unhide H3).lt
      clear hfs hfp hso hmv hA HS H2 H3 HW
      go_upto_region 6 with fail
      generalize (W2.alloc (.cells #[.int .i64 Ws, .int .i64 Hs, .slice us ns cs] 25)).alloc (.cells #[.int .i64 Wp, .int .i64 Hp, .slice up np cp] 25) = Wb at *
      generalize W2.heap.size = b7 at *
      obtain ⟨ps, pos, hits⟩ := (unhide HFS).its
      obtain ⟨pp, pop, hitp⟩ := (unhide HFP).its
      have HPR := hide (prM_any R Ws Hs us ps pos ns cs S Wp Hp up pp pop np cp P Wb (unhide HFS).1 (by have := (unhide HFS).2.1; omega) hits (unhide HFP).1 (by have := (unhide HFP).2.1; omega) hitp)
      have c0 := (unhide H7).cell (m := 0) rfl
      have c1 := (unhide H7).cell (m := 1) rfl
      have c2 := (unhide H7).cell (m := 2) rfl
      have d0 := (unhide H8).cell (m := 0) rfl
      have d1 := (unhide H8).cell (m := 1) rfl
      have d2 := (unhide H8).cell (m := 2) rfl
      unfold fldV at HPR
      clear hits hitp
      obtain ⟨ok, hok⟩ : ∃ ok, (stB Ws Hs S Wp Hp P && (decide (0 ≤ R) && decide (R ≤ 3))) = ok := ⟨_, rfl⟩
      rw [hok] at HPR
      have HOK := hide hok
      clear hok
      go_wp2_with fail
      refine (unhide HPR).mono ?_
      rintro e Wc ⟨rfl, hbc⟩
      have HFSc := hide ((unhide HFS).bel hbc)
      have HFPc := hide ((unhide HFP).bel hbc)
      have HSc := hide ((unhide HSn).bel hbc)
      have H2c := hide ((unhide H2n).bel hbc)
      have H3c := hide ((unhide H3n).bel hbc)
      have H7c := hide ((unhide H7).bel hbc)
      have H8c := hide ((unhide H8).bel hbc)
      have HWc := hide (bc (unhide HWn) hbc)
      clear hbc HFS HFP HSn H2n H3n H7 H8 HWn HPR c0 c1 c2 d0 d1 d2
      cases ok with
      | false =>
        go_wp2_with fail
        go_roundw
        case rel => exact ⟨i + 1, by simp, hc, (unhide HSc).up (by omega), unhide H2c, unhide H3c, unhide HWc⟩
        case measure => simp only [intOf]; omega
      | true =>
        obtain ⟨W, H, r, gs, po1, g, po2, rfl, rfl, rfl, rfl, rfl, rfl, rfl, rfl, hj⟩ := jok_of (unhide HFSc) (unhide HFPc) (unhide HOK)
        have HJ := hide hj
        clear hj
        go_wp2_with fail
        refine Go.Code.wp_mono (Only.to (fun _ _ h => h)) (jo7 (by omega) (by omega) (by omega) (by omega) H7c H8c H2c H3c (fun y26 y27 y28 Wz hz2 hz3 hmq => ?_))
        have a0 := hz2.cell (m := 0) rfl
        have a1 := hz2.cell (m := 1) rfl
        have a2 := hz2.cell (m := 2) rfl
        have b0 := hz3.cell (m := 0) rfl
        have b1 := hz3.cell (m := 1) rfl
        have b2 := hz3.cell (m := 2) rfl
        have HMQ := hide hmq
        clear hz2 hz3 hmq
        go_wp2_with fail
        (try rw [Exit.noGoto_ret])
        refine bodyPost_ret (v := .tuple #[.agg #[.int .i64 (W : Int), .int .i64 (H : Int), .slice (some ⟨gs, po1, none⟩) ns cs], .agg #[.int .i64 (W : Int), .int .i64 (H : Int), .slice (some ⟨g, po2, none⟩) ns cp], .int .i64 (r : Int)]) (by simp [results, Try.results7, go_sem, a0, a1, a2, b0, b1, b2]) rfl ?_
        have x1 := hbs _ rfl
        have x2 := hbp _ rfl
        simp only at x1 x2
        have hj := unhide HJ
        refine ⟨⟨W, H, r, gs, po1, cs, g, po2, cp, ns, S, P, rfl, hj.W1, hj.W2, hj.H1, hj.H2, hj.r3, hj.n_, hj.fs.mq (unhide HMQ) (by omega) (by omega), hj.fp.mq (unhide HMQ) (by omega) (by omega), hj.st⟩, ?_⟩
        exact (unhide HWc).trans ((unhide HMQ).bel4 (C := w.heap.size) (unhide HWc).size (Nat.le_refl _) (by omega))
    · have lz : decide ((i : Int) < 3) = false := decide_eq_false (by omega)
      have k0 := (unhide H2).cell (m := 0) rfl
      have k1 := (unhide H2).cell (m := 1) rfl
      have k2 := (unhide H2).cell (m := 2) rfl
      have j0 := (unhide H3).cell (m := 0) rfl
      have j1 := (unhide H3).cell (m := 1) rfl
      have j2 := (unhide H3).cell (m := 2) rfl
      have f2 := (unhide H2).frozen
      have f3 := (unhide H3).frozen
      have hlt3 := (unhide H3).lt
      have hlt2 := (unhide H2).lt
      have e0 : w.heap.size ≠ w.heap.size + 1 := by omega
      have e1 : w.heap.size + 1 ≠ w.heap.size := by omega
      have hle0 : w.heap.size ≤ w.heap.size := Nat.le_refl _
      have hle1 : w.heap.size ≤ w.heap.size + 1 := Nat.le_succ _
      have HY2 : Hid (vb ((((((wr.setCell ⟨w.heap.size, 0, none⟩ (.int .i64 2)).setCell ⟨w.heap.size, 1, none⟩ (.int .i64 1)).setCell ⟨w.heap.size, 2, none⟩ (.slice (some ⟨wr.heap.size, 0, none⟩) 2 2)).setCell ⟨w.heap.size + 1, 0, none⟩ (.int .i64 2)).setCell ⟨w.heap.size + 1, 1, none⟩ (.int .i64 1)).setCell ⟨w.heap.size + 1, 2, none⟩ (.slice (some ⟨wr.heap.size + 1, 0, none⟩) 2 2)) w.heap.size 25 [.int .i64 2, .int .i64 1, .slice (some ⟨wr.heap.size, 0, none⟩) 2 2]) := hide ((((((unhide H2).set 0 _).set 1 _).set 2 _).ne e0).ne e0 |>.ne e0)
      have HY3 : Hid (vb ((((((wr.setCell ⟨w.heap.size, 0, none⟩ (.int .i64 2)).setCell ⟨w.heap.size, 1, none⟩ (.int .i64 1)).setCell ⟨w.heap.size, 2, none⟩ (.slice (some ⟨wr.heap.size, 0, none⟩) 2 2)).setCell ⟨w.heap.size + 1, 0, none⟩ (.int .i64 2)).setCell ⟨w.heap.size + 1, 1, none⟩ (.int .i64 1)).setCell ⟨w.heap.size + 1, 2, none⟩ (.slice (some ⟨wr.heap.size + 1, 0, none⟩) 2 2)) (w.heap.size + 1) 25 [.int .i64 2, .int .i64 1, .slice (some ⟨wr.heap.size + 1, 0, none⟩) 2 2]) := hide ((((((unhide H3).ne e1).ne e1).ne e1).set 0 _).set 1 _ |>.set 2 _)
      have HYB : Hid (Below w.heap.size w ((((((wr.setCell ⟨w.heap.size, 0, none⟩ (.int .i64 2)).setCell ⟨w.heap.size, 1, none⟩ (.int .i64 1)).setCell ⟨w.heap.size, 2, none⟩ (.slice (some ⟨wr.heap.size, 0, none⟩) 2 2)).setCell ⟨w.heap.size + 1, 0, none⟩ (.int .i64 2)).setCell ⟨w.heap.size + 1, 1, none⟩ (.int .i64 1)).setCell ⟨w.heap.size + 1, 2, none⟩ (.slice (some ⟨wr.heap.size + 1, 0, none⟩) 2 2))) := hide (Below.setCell (Below.setCell (Below.setCell (Below.setCell (Below.setCell (Below.setCell (unhide HW) hle0 _) hle0 _) hle0 _) hle1 _) hle1 _) hle1 _)
      have HYS : Hid (((((((wr.setCell ⟨w.heap.size, 0, none⟩ (.int .i64 2)).setCell ⟨w.heap.size, 1, none⟩ (.int .i64 1)).setCell ⟨w.heap.size, 2, none⟩ (.slice (some ⟨wr.heap.size, 0, none⟩) 2 2)).setCell ⟨w.heap.size + 1, 0, none⟩ (.int .i64 2)).setCell ⟨w.heap.size + 1, 1, none⟩ (.int .i64 1)).setCell ⟨w.heap.size + 1, 2, none⟩ (.slice (some ⟨wr.heap.size + 1, 0, none⟩) 2 2)).heap.size = wr.heap.size) := hide (by simp [World.setCell])
      go_wp2_with fail
      clear k0 k1 k2 j0 j1 j2 f2 f3
      generalize (((((wr.setCell ⟨w.heap.size, 0, none⟩ (.int .i64 2)).setCell ⟨w.heap.size, 1, none⟩ (.int .i64 1)).setCell ⟨w.heap.size, 2, none⟩ (.slice (some ⟨wr.heap.size, 0, none⟩) 2 2)).setCell ⟨w.heap.size + 1, 0, none⟩ (.int .i64 2)).setCell ⟨w.heap.size + 1, 1, none⟩ (.int .i64 1)).setCell ⟨w.heap.size + 1, 2, none⟩ (.slice (some ⟨wr.heap.size + 1, 0, none⟩) 2 2) = Y at *
      have hA : Below Y.heap.size Y ((Y.alloc (.cells #[.int .i64 5, .int .i64 5] 3)).alloc (.cells #[.int .i64 1, .int .i64 3] 3)) := ba (ba (Below.refl _ _) _) _
      have hy2 := (unhide HY2).bel hA
      have hy3 := (unhide HY3).bel hA
      have x1 := vb_new1 Y 3 [.int .i64 5, .int .i64 5] (.cells #[.int .i64 1, .int .i64 3] 3)
      have x2 := vb_new2 Y 3 [.int .i64 1, .int .i64 3] (.cells #[.int .i64 5, .int .i64 5] 3)
      rw [unhide HYS] at x1 x2
      have HX1 := hide x1
      have HX2 := hide x2
      have a0 := hy2.cell (m := 0) rfl
      have a1 := hy2.cell (m := 1) rfl
      have a2 := hy2.cell (m := 2) rfl
      have b0 := hy3.cell (m := 0) rfl
      have b1 := hy3.cell (m := 1) rfl
      have b2 := hy3.cell (m := 2) rfl
      have HBN := hide (bc (unhide HYB) hA)
      clear hA hy2 hy3 x1 x2 hlt2 hlt3 HYS
      generalize (Y.alloc (.cells #[.int .i64 5, .int .i64 5] 3)).alloc (.cells #[.int .i64 1, .int .i64 3] 3) = Wn at *
      refine bodyPost_ret (v := .tuple #[.agg #[.int .i64 2, .int .i64 1, .slice (some ⟨wr.heap.size, 0, none⟩) 2 2], .agg #[.int .i64 2, .int .i64 1, .slice (some ⟨wr.heap.size + 1, 0, none⟩) 2 2], .int .i64 0]) (by simp [results, Try.results7, go_sem, a0, a1, a2, b0, b1, b2]) rfl ?_
      exact ⟨⟨2, 1, 0, wr.heap.size, 0, 2, wr.heap.size + 1, 0, 2, 2, [5, 5], [1, 3], rfl, by omega, by omega, by omega, by omega, by omega, rfl, fd_two (unhide HX1), fd_two (unhide HX2), by decide⟩, unhide HBN⟩
end Go.Proofs.Ytjhldjojkaphkaa

namespace Go.Proofs.Ytjhldjojkaphkaa
open Go.ChangeShapes Go.WideShapes Go.ChangeAt Go.RowKit
set_option linter.unusedVariables false
set_option linter.unusedSimpArgs false

set_option maxHeartbeats 1000000 in
theorem at_in (b off len cap : Nat) (i n x y : Int) (w : World) (hl0 : 1 ≤ len) (hl : len ≤ 1048576) (hi : 0 ≤ i ∧ i ≤ 100) (hn : 1 < n ∧ n ≤ 1000)
    (hx : w.cell? ⟨b, off + (i % (len : Int)).toNat, none⟩ = some (.int .u8 x)) (hy : w.cell? ⟨b, off + ((i + 1) % (len : Int)).toNat, none⟩ = some (.int .u8 y)) (bx : 0 ≤ x ∧ x ≤ 255) (by_ : 0 ≤ y ∧ y ≤ 255) :
    Calls Try.prog 8 #[.slice (some ⟨b, off, none⟩) len cap, .int .i64 i, .int .i64 n] w fun e w' => ∃ r : Int, e = .returned (.int .i64 r) ∧ 0 ≤ r ∧ r < n ∧ Below w.heap.size w w' := by
  have h1 : decide (n ≤ 1) = false := decide_eq_false (by omega)
  have h2 : ((len : Int) == 0) = false := by rw [beq_eq_false_iff_ne]; omega
  have h3 : (n == 0) = false := by rw [beq_eq_false_iff_ne]; omega
  have t1 : i.tmod (len : Int) = i % (len : Int) := Int.tmod_eq_emod_of_nonneg (by omega)
  have t2 : (i + 1).tmod (len : Int) = (i + 1) % (len : Int) := Int.tmod_eq_emod_of_nonneg (by omega)
  have e1 := Int.emod_nonneg i (b := (len : Int)) (by omega)
  have e2 := Int.emod_lt_of_pos i (b := (len : Int)) (by omega)
  have e3 := Int.emod_nonneg (i + 1) (b := (len : Int)) (by omega)
  have e4 := Int.emod_lt_of_pos (i + 1) (b := (len : Int)) (by omega)
  have q1 : i.tdiv (len : Int) = i / (len : Int) := Int.tdiv_eq_ediv_of_nonneg (by omega)
  have q2 := Int.ediv_nonneg (a := i) (b := (len : Int)) (by omega) (by omega)
  have q3 := Int.ediv_le_self (a := i) (len : Int) (by omega)
  go_enter Try.func8, Try.ntmps8
  go_wp2_with fail
  go_quiet (fail)
  go_wp2_with fail
  go_ret
  exact ⟨_, rfl, Int.emod_nonneg _ (by omega), Int.emod_lt_of_pos _ (by omega), ⟨rfl, rfl, rfl, Nat.le_refl _, fun _ _ => rfl⟩⟩

set_option maxHeartbeats 1000000 in
theorem at_any (a : Option Addr) (len cap B : Nat) (zs : List Int) (i n : Int) (w : World) (hc : Code B w a len cap zs) (hl : len ≤ 1048576) (hi : 0 ≤ i ∧ i ≤ 100) (hn : 1 ≤ n ∧ n ≤ 1000) :
    Calls Try.prog 8 #[.slice a len cap, .int .i64 i, .int .i64 n] w fun e w' => ∃ r : Int, e = .returned (.int .i64 r) ∧ 0 ≤ r ∧ r < n ∧ Below w.heap.size w w' := by
  by_cases h1 : n = 1
  · subst h1
    clear hc
    go_enter Try.func8, Try.ntmps8
    go_wp2_with fail
    go_ret
    exact ⟨0, rfl, by omega, by omega, Below.refl _ _⟩
  · rcases hc with rfl | ⟨b, off, rfl, _, _, h2, h3, h4, h5, h6⟩
    · have d1 : decide (n ≤ 1) = false := decide_eq_false (by omega)
      have d3 : (n == 0) = false := by rw [beq_eq_false_iff_ne]; omega
      have hw : IntKind.i64.wrap (i * 7) = i * 7 := wrap_i (by omega) (by omega)
      have t1 : (i * 7).tmod n = (i * 7) % n := Int.tmod_eq_emod_of_nonneg (by omega)
      go_enter Try.func8, Try.ntmps8
      go_wp2_with fail
      go_ret
      exact ⟨_, rfl, Int.emod_nonneg _ (by omega), Int.emod_lt_of_pos _ (by omega), Below.refl _ _⟩
    · by_cases h0 : len = 0
      · subst h0
        have d1 : decide (n ≤ 1) = false := decide_eq_false (by omega)
        have d3 : (n == 0) = false := by rw [beq_eq_false_iff_ne]; omega
        have hw : IntKind.i64.wrap (i * 7) = i * 7 := wrap_i (by omega) (by omega)
        have t1 : (i * 7).tmod n = (i * 7) % n := Int.tmod_eq_emod_of_nonneg (by omega)
        clear h5 h6 h4
        go_enter Try.func8, Try.ntmps8
        go_wp2_with fail
        go_ret
        exact ⟨_, rfl, Int.emod_nonneg _ (by omega), Int.emod_lt_of_pos _ (by omega), Below.refl _ _⟩
      · have e1 := Int.emod_nonneg i (b := (len : Int)) (by omega)
        have e2 := Int.emod_lt_of_pos i (b := (len : Int)) (by omega)
        have e3 := Int.emod_nonneg (i + 1) (b := (len : Int)) (by omega)
        have e4 := Int.emod_lt_of_pos (i + 1) (b := (len : Int)) (by omega)
        exact at_in b off len cap i n _ _ w (by omega) hl hi (by omega) (h5 (i % (len : Int)).toNat (by omega)) (h5 ((i + 1) % (len : Int)).toNat (by omega)) (h6 _) (h6 _)
end Go.Proofs.Ytjhldjojkaphkaa

namespace Go.Proofs.Ytjhldjojkaphkaa
open Go.ChangeShapes Go.WideShapes Go.ChangeAt Go.RowKit
set_option linter.unusedVariables false
set_option linter.unusedSimpArgs false

structure Keep (w : World) (vs : List (Nat × Nat × List Value)) (fs : List (Nat × Nat × Nat × Nat × List Int)) (X : World) : Prop where
  bel : Below w.heap.size w X
  v : ∀ b ∈ vs, vb X b.1 b.2.1 b.2.2
  f : ∀ q ∈ fs, Fd X q.1 q.2.1 q.2.2.1 q.2.2.2.1 q.2.2.2.2
theorem Keep.next {w X X' : World} {vs : List (Nat × Nat × List Value)} {fs : List (Nat × Nat × Nat × Nat × List Int)} (h : Keep w vs fs X) (hb : Below X.heap.size X X') : Keep w vs fs X' :=
  ⟨bc h.bel hb, fun b hb' => (h.v b hb').bel hb, fun q hq => (h.f q hq).bel hb⟩
theorem Keep.addv {w X : World} {vs : List (Nat × Nat × List Value)} {fs : List (Nat × Nat × Nat × Nat × List Int)} (h : Keep w vs fs X) {b t : Nat} {L : List Value} (hv : vb X b t L) : Keep w ((b, t, L) :: vs) fs X := by
  refine ⟨h.bel, fun b' hb => ?_, h.f⟩
  rcases List.mem_cons.1 hb with rfl | hb
  · exact hv
  · exact h.v b' hb
theorem Keep.addf {w X : World} {vs : List (Nat × Nat × List Value)} {fs : List (Nat × Nat × Nat × Nat × List Int)} (h : Keep w vs fs X) {g po n c : Nat} {L : List Int} (hf : Fd X g po n c L) : Keep w vs ((g, po, n, c, L) :: fs) X := by
  refine ⟨h.bel, h.v, fun q hq => ?_⟩
  rcases List.mem_cons.1 hq with rfl | hq
  · exact hf
  · exact h.f q hq
theorem Keep.vat {w X : World} {vs : List (Nat × Nat × List Value)} {fs : List (Nat × Nat × Nat × Nat × List Int)} (h : Keep w vs fs X) (i : Nat) {b t : Nat} {L : List Value} (hi : vs[i]? = some (b, t, L)) : vb X b t L := h.v _ (List.mem_of_getElem? hi)
theorem Keep.fat {w X : World} {vs : List (Nat × Nat × List Value)} {fs : List (Nat × Nat × Nat × Nat × List Int)} (h : Keep w vs fs X) (i : Nat) {g po n c : Nat} {L : List Int} (hi : fs[i]? = some (g, po, n, c, L)) : Fd X g po n c L := h.f _ (List.mem_of_getElem? hi)
end Go.Proofs.Ytjhldjojkaphkaa

namespace Go.Proofs.Ytjhldjojkaphkaa
open Go.ChangeShapes Go.WideShapes Go.ChangeAt Go.RowKit
set_option linter.unusedVariables false
set_option linter.unusedSimpArgs false

theorem neq65 (s : Bool) (a b c : Int) (W : World) : (binOp .neq 65 (.agg #[.bool s, .int .i64 a, .int .i64 b, .int .i64 c]) (.agg #[.bool s, .int .i64 a, .int .i64 b, .int .i64 c])).run Try.prog W = .ok (.bool false) W := by
  cases s <;> go_simp
set_option maxHeartbeats 1000000 in
theorem smv_same (u v : Option Addr) (B B' n cu cv : Nat) (ms : List Mve) (w : World) (hn : n ≤ 1844674407370955161)
    (hu : Mrow w B (.slice u n cu) n ms) (hv : Mrow w B' (.slice v n cv) n ms) :
    Calls Try.prog 11 #[.slice u n cu, .slice v n cv] w fun e w' => e = .returned (.bool true) ∧ Below w.heap.size w w' := by
  have HL := hide hu.len
  have HU := hide hu
  have HV := hide hv
  have HFU : Hid (n ≠ 0 → u = some ⟨bo u, 0, none⟩) := hide (by
    obtain ⟨u', c', h1, h2⟩ := hu.form
    cases h1
    exact fun h => (h2 h).1)
  have HFV : Hid (n ≠ 0 → v = some ⟨bo v, 0, none⟩) := hide (by
    obtain ⟨u', c', h1, h2⟩ := hv.form
    cases h1
    exact fun h => (h2 h).1)
  clear hu hv
  go_enter Try.func11, Try.ntmps11
  go_wp2
  go_loopw [5] (fun s W => ∃ i : Nat, s = .int .i64 (i : Int) ∧ i ≤ n ∧ Below w.heap.size w W) (fun s _ => n - (intOf s).toNat)
  case atStart => exact ⟨0, rfl, Nat.zero_le _, Below.refl _ _⟩
  case round =>
    obtain ⟨i, rfl, hi, hw⟩ := hrel
    have HW := hide hw
    clear hw
    by_cases h : i < n
    · have i1 : (i : Int) < (n : Int) := by omega
      have i0 : (0 : Int) ≤ (i : Int) := Int.natCast_nonneg _
      have iz : decide ((i : Int) < (n : Int)) = true := decide_eq_true i1
      obtain ⟨⟨s, a, b, c⟩, hx⟩ := get_some (unhide HL) h
      have eu := unhide HFU (by omega)
      have ev := unhide HFV (by omega)
      generalize bo u = p at eu
      generalize bo v = q at ev
      subst eu
      subst ev
      obtain ⟨k0, k1, k2, k3⟩ := ((unhide HU).bel (unhide HW)).at hx
      obtain ⟨l0, l1, l2, l3⟩ := ((unhide HV).bel (unhide HW)).at hx
      simp only at k0 k1 k2 k3 l0 l1 l2 l3
      have hq := neq65 s a b c
      clear hx
      go_wp2_with fail
      go_quiet (fail)
      go_wp2_with fail
      go_roundw
      case rel => exact ⟨i + 1, by simp, h, bel_dn' (unhide HW) _⟩
      case measure => simp only [intOf]; omega
    · have i1 : ¬ (i : Int) < (n : Int) := by omega
      have iz : decide ((i : Int) < (n : Int)) = false := decide_eq_false i1
      go_wp2_with fail
      go_ret
      exact ⟨rfl, unhide HW⟩
theorem Mrow.mvi {w : World} {B g n cap : Nat} {ms : List Mve} (h : Mrow w B (.slice (some ⟨g, 0, none⟩) n cap) n ms) : Mvi w (some ⟨g, 0, none⟩) g 0 ms := by
  intro _
  refine ⟨rfl, (Mvs.lt h g rfl).2, ?_⟩
  intro i l hi
  simp only [Nat.zero_add]
  exact h.at hi
theorem rsum_flat {T P : List Int} {k : Nat} (h : tp P k ≤ tp T k) : rsum T P (k + 1) = rsum T P k + (tp T k - tp P k) := by
  show rsum T P k + max (tp T k - tp P k) 0 = _
  omega
theorem fok_of {W H n : Nat} {T : List Int} (hW1 : 1 ≤ W) (hW : W ≤ 24) (hH1 : 1 ≤ H) (hH : H ≤ 24) (hn : n = W * H) (hl : T.length = n) (hT : ∀ i, 0 ≤ tp T i ∧ tp T i ≤ 24) : FOk (W : Int) (H : Int) T := by
  refine ⟨by omega, by omega, by omega, by omega, by rw [hl, hn]; simp, ?_⟩
  rw [List.all_eq_true]
  intro x hx
  obtain ⟨i, hi, rfl⟩ := List.getElem_of_mem hx
  have := hT i
  rw [tp_of (List.getElem?_eq_getElem hi)] at this
  exact topOk_iff.2 this
theorem low_rng {W H r : Nat} {P : List Int} (hP : ∀ i, 0 ≤ tp P i ∧ tp P i ≤ 24) (i : Nat) : 0 ≤ tp (lowL W H r P) i ∧ tp (lowL W H r P) i ≤ 24 := by
  by_cases h : i < W * H
  · rw [low_tp h]
    exact ⟨hi_nn _ _, hi_top (fun j => (hP j).2)⟩
  · have : tp (lowL W H r P) i = 0 := by
      unfold tp
      rw [List.getD_eq_getElem?_getD, List.getElem?_eq_none (by unfold lowL; rw [byL_len]; omega)]
      rfl
    rw [this]
    omega
theorem mok_of {n : Nat} {S : List Int} (hl : S.length = n) (hS : ∀ i, 0 ≤ tp S i ∧ tp S i ≤ 24) : MOk n ⟨S, 0, 0, 0⟩ := by
  have := (sm_nn S (tops_mem hS)).2
  exact ⟨hl, hS, by show (0 : Int) ≤ 0; omega, by show (0 : Int) + sm S ≤ 24 * (n : Int); rw [← hl]; omega, by show (0 : Int) ≤ 0 ∧ (0 : Int) ≤ 24; omega⟩
set_option maxHeartbeats 8000000 in
set_option maxRecDepth 100000 in
theorem fnZigzag_core (a a2 : Option Addr) (len cap0 len2 cap2 : Nat) (zs zs2 : List Int) (w : World) (hl : len ≤ 1048576) (hl2 : len2 ≤ 1048576) (hc : Code w.heap.size w a len cap0 zs) (hc2 : Code w.heap.size w a2 len2 cap2 zs2) :
    Calls Try.prog 3 #[.slice a len cap0, .slice a2 len2 cap2] w fun e w' => e = .returned (.bool true) ∧ Below w.heap.size w w' := by
  have HJ := hide (jobOf_any a len cap0 zs w hc (by omega))
  have HC2 := hide (fun X (hX : Below w.heap.size w X) => at_any a2 len2 cap2 X.heap.size zs2 0 12 X (codeUp hc2 hX) hl2 (by omega) (by omega))
  have t1 : decide ((1048576 : Int) < (len : Int)) = false := decide_eq_false (by omega)
  have t2 : decide ((1048576 : Int) < (len2 : Int)) = false := decide_eq_false (by omega)
  clear hc hc2
  go_enter Try.func3, Try.ntmps3
  go_wp2_with fail
  refine (unhide HJ).mono ?_
  rintro e W1 ⟨⟨W, H, r, gs, pos, cs, g, po, c, n, S, P, rfl, hj⟩, hb1⟩
  have hW1 := hj.W1
  have hW := hj.W2
  have hH1 := hj.H1
  have hH := hj.H2
  have hr := hj.r3
  obtain ⟨oS, oP, hun⟩ := hj.oks
  have HST := hide hj.st
  have HN := hide hj.n_
  have HSL := hide hj.fs.len
  have HPL := hide hj.fp.len
  have HSt := hide oS.tops_tp
  have HPt := hide oP.tops_tp
  have HOP := hide oP
  have HUN := hide hun
  have hnb : n ≤ 576 := by rw [hj.n_]; exact Nat.mul_le_mul hW hH
  have hn1 : 1 ≤ n := by rw [hj.n_]; exact Nat.mul_pos hW1 hH1
  have hA : Below W1.heap.size W1 ((W1.alloc (.cells #[.int .i64 (W : Int), .int .i64 (H : Int), .slice (some ⟨gs, pos, none⟩) n cs] 25)).alloc (.cells #[.int .i64 (W : Int), .int .i64 (H : Int), .slice (some ⟨g, po, none⟩) n c] 25)) := ba (ba (Below.refl _ _) _) _
  have HK : Hid (Keep w [(W1.heap.size, 25, [.int .i64 (W : Int), .int .i64 (H : Int), .slice (some ⟨gs, pos, none⟩) n cs]), (W1.heap.size + 1, 25, [.int .i64 (W : Int), .int .i64 (H : Int), .slice (some ⟨g, po, none⟩) n c])] [(gs, pos, n, cs, S), (g, po, n, c, P)] ((W1.alloc (.cells #[.int .i64 (W : Int), .int .i64 (H : Int), .slice (some ⟨gs, pos, none⟩) n cs] 25)).alloc (.cells #[.int .i64 (W : Int), .int .i64 (H : Int), .slice (some ⟨g, po, none⟩) n c] 25))) := hide (Keep.addv (Keep.addv (Keep.addf (Keep.addf ⟨bc hb1 hA, fun b hb => (by cases hb), fun q hq => (by cases hq)⟩ (hj.fp.bel hA)) (hj.fs.bel hA)) (vb_new2 W1 25 [.int .i64 (W : Int), .int .i64 (H : Int), .slice (some ⟨g, po, none⟩) n c] (.cells #[.int .i64 (W : Int), .int .i64 (H : Int), .slice (some ⟨gs, pos, none⟩) n cs] 25))) (vb_new1 W1 25 [.int .i64 (W : Int), .int .i64 (H : Int), .slice (some ⟨gs, pos, none⟩) n cs] (.cells #[.int .i64 (W : Int), .int .i64 (H : Int), .slice (some ⟨g, po, none⟩) n c] 25)))
  clear hj hb1 hA HJ oS oP hun
  unfold fldV at *
  go_upto_region 4 with fail
  generalize (W1.alloc (.cells #[.int .i64 (W : Int), .int .i64 (H : Int), .slice (some ⟨gs, pos, none⟩) n cs] 25)).alloc (.cells #[.int .i64 (W : Int), .int .i64 (H : Int), .slice (some ⟨g, po, none⟩) n c] 25) = Wa at *
  generalize W1.heap.size + 1 = b6 at *
  generalize W1.heap.size = b5 at *
  go_wp2_with fail
  refine (unhide HC2 _ (unhide HK).bel).mono ?_
  rintro e W2 ⟨zz, rfl, hz0, hz1, hb2⟩
  have HK2 := hide ((unhide HK).next hb2)
  clear hb2 HK HC2
  obtain ⟨s, hs⟩ : ∃ s : Nat, (1 : Int) + zz = (s : Int) := ⟨(1 + zz).toNat, by omega⟩
  have wz : IntKind.i64.wrap (1 + zz) = (s : Int) := by rw [hs]; exact Go.IntWalk.i64_in _ ⟨by omega, by omega⟩
  have hs1 : 1 ≤ s := by omega
  have hs24 : s ≤ 24 := by omega
  have HLt := hide (low_rng (W := W) (H := H) (r := r) (unhide HPt))
  have HGP := hide (fun (X : World) (h1 : Fd X gs pos n cs S) (h2 : Fd X g po n c P) => zgP_good W H n cs gs pos c g po r s S P X hW1 hW hH1 hH (unhide HN) hr hs1 hs24 (unhide HST) h1 h2 (mok_of (unhide HSL) (unhide HSt)) (unhide HLt))
  have HGM := hide (fun (X : World) (h1 : Fd X gs pos n cs S) (h2 : Fd X g po n c P) => zgM_good W H n cs gs pos c g po r s S P X hW1 hW hH1 hH (unhide HN) hr hs1 hs24 (unhide HST) h1 h2 (unhide HSt) (unhide HLt))
  have HZL := hide (fun i (hi : i < n) => zz_left (W := W) (H := H) (r := r) (s := s) (n := n) (S := S) (P := P) hr hs1 hW1 hH1 (unhide HN) (unhide HSL) (unhide HPt) (i := i) hi)
  have HZO := hide (zzL_ok (W := W) (H := H) (r := r) (s := s) (S := S) (P := P) hW1 (unhide HPt))
  have HGP' := hide (fun (X : World) (h1 : Fd X gs pos n cs S) (h2 : Fd X g po n c P) => (unhide HGP) X h1 h2)
  obtain ⟨PS, hPS⟩ : ∃ PS, zzL W H r s S (lowL W H r P) = PS := ⟨_, rfl⟩
  have hPS' : zzL W H r s S (lowP W H r P) = PS := hPS
  simp only [hPS] at HGM HZL HZO
  simp only [hPS'] at HGP'
  have HZR := hide (zz_run (P := P) (S := S) (W := W) (H := H) (r := r) (n := n) (ps := PS) hr hW1 hH1 (unhide HN) (unhide HSL) (unhide HSt) (unhide HPt) (unhide HZO) PS.length (Nat.le_refl _))
  have HPO : Hid (∀ p ∈ PS, 0 ≤ p.2.2) := hide (fun p hp => (unhide HZO p hp).2.2.1)
  clear hPS hPS' HGP hs HZO
  unfold fldV at *
  have k0 := ((unhide HK2).vat 0 rfl).cell (m := 0) rfl
  have k1 := ((unhide HK2).vat 0 rfl).cell (m := 1) rfl
  have k2 := ((unhide HK2).vat 0 rfl).cell (m := 2) rfl
  have j0 := ((unhide HK2).vat 1 rfl).cell (m := 0) rfl
  have j1 := ((unhide HK2).vat 1 rfl).cell (m := 1) rfl
  have j2 := ((unhide HK2).vat 1 rfl).cell (m := 2) rfl
  go_wp2_with fail
  refine (unhide HGP' _ ((unhide HK2).fat 0 rfl) ((unhide HK2).fat 1 rfl)).mono ?_
  rintro e W3 ⟨⟨v3, E3, rfl, hz3⟩, hb3⟩
  have HK3 := hide ((unhide HK2).next hb3)
  have HZ3 := hide hz3
  clear hb3 hz3 k0 k1 k2 j0 j1 j2 HK2 HGP'
  have k0 := ((unhide HK3).vat 0 rfl).cell (m := 0) rfl
  have k1 := ((unhide HK3).vat 0 rfl).cell (m := 1) rfl
  have k2 := ((unhide HK3).vat 0 rfl).cell (m := 2) rfl
  have j0 := ((unhide HK3).vat 1 rfl).cell (m := 0) rfl
  have j1 := ((unhide HK3).vat 1 rfl).cell (m := 1) rfl
  have j2 := ((unhide HK3).vat 1 rfl).cell (m := 2) rfl
  go_wp2_with fail
  refine (unhide HGM _ ((unhide HK3).fat 0 rfl) ((unhide HK3).fat 1 rfl)).mono ?_
  rintro e W4 ⟨⟨v4, E4, rfl, hz4⟩, hb4⟩
  have HK4 := hide ((unhide HK3).next hb4)
  clear k0 k1 k2 j0 j1 j2 HK3 HGM
  by_cases hfew : 1 + 4 * PS.length ≤ 2000
  · obtain ⟨hE3, hm3⟩ : E3 = 0 ∧ Mrow W4 W2.heap.size v3 (1 + 4 * PS.length) (zmv PS PS.length) := by
      rcases unhide HZ3 with ⟨_, h1, h2⟩ | ⟨h1, _⟩
      · refine ⟨h1, ?_⟩
        have h9 : Mrow W3 W2.heap.size v3 (1 + 4 * PS.length) (zmv PS PS.length) := by unfold Mrow; rw [← zcs_flat]; exact h2
        exact h9.bel hb4
      · omega
    obtain ⟨hE4, hm4⟩ : E4 = 0 ∧ Mrow W4 W3.heap.size v4 (1 + 4 * PS.length) (zmv PS PS.length) := by
      rcases hz4 with ⟨_, h1, h2⟩ | ⟨h1, _⟩
      · exact ⟨h1, by unfold Mrow; rw [← zcs_flat]; exact h2⟩
      · omega
    subst hE3 hE4
    have HML : Hid ((zmv PS PS.length).length = 1 + 4 * PS.length) := hide (zmv_len PS PS.length)
    obtain ⟨ms, hms⟩ : ∃ ms, zmv PS PS.length = ms := ⟨_, rfl⟩
    rw [hms] at hm3 hm4 HML HZR
    obtain ⟨m, hm⟩ : ∃ m, 1 + 4 * PS.length = m := ⟨_, rfl⟩
    rw [hm] at hm3 hm4 hfew HML HZR
    have hm0 : m ≠ 0 := by omega
    obtain ⟨g3, c3, rfl, hg3a, hg3b⟩ := hm3.full hm0
    obtain ⟨g4, c4, rfl, _, _⟩ := hm4.full hm0
    have HM3 := hide hm3
    have HM4 := hide hm4
    have HSM := hide (smv_same (some ⟨g3, 0, none⟩) (some ⟨g4, 0, none⟩) _ _ m c3 c4 ms W4 (by omega) hm3 hm4)
    have HTK : Hid (∃ sm, mlK P W H r S ms m = ((zox PS PS.length, zoy PS PS.length, 24), sm) ∧ sm.T = tkf W H r S PS) := hide (by
      obtain ⟨_, sm, h1, h2, _⟩ := unhide HZR
      rw [List.take_length] at h2
      exact ⟨sm, h1, h2⟩)
    have HGO : Hid (MlEnd P W H r S ms m) := hide ⟨by rw [unhide HML]; exact Nat.le_refl _, (unhide HZR).1, fun h => by rw [unhide HML] at h; omega⟩
    have HTO := hide (tkf_ok (W := W) (H := H) (r := r) (n := n) (ps := PS) (unhide HSL) (unhide HSt) (unhide HPO))
    have HFB := hide (fl_bd (W := W) (H := H) (r := r) (T := P) hr (unhide HPt))
    have HFG := hide (fun i (hi : i < W * H) => fl_ge (W := W) (H := H) (r := r) (T := P) hr (unhide HPt) (i := i) hi)
    obtain ⟨TT, hTT⟩ : ∃ TT, tkf W H r S PS = TT := ⟨_, rfl⟩
    rw [hTT] at HTK HTO
    simp only [hTT] at HZL
    clear hms hm hm3 hm4 hz4 HZ3 hb4 hTT HZR
    go_wp2_with fail
    refine (unhide HSM).mono ?_
    rintro e W5 ⟨rfl, hb5⟩
    have HK5 := hide ((unhide HK4).next hb5)
    have HM5 := hide ((unhide HM3).bel hb5)
    clear hb5 HK4 HM3 HM4 HSM
    have k0 := ((unhide HK5).vat 0 rfl).cell (m := 0) rfl
    have k1 := ((unhide HK5).vat 0 rfl).cell (m := 1) rfl
    have k2 := ((unhide HK5).vat 0 rfl).cell (m := 2) rfl
    have j0 := ((unhide HK5).vat 1 rfl).cell (m := 0) rfl
    have j1 := ((unhide HK5).vat 1 rfl).cell (m := 1) rfl
    have j2 := ((unhide HK5).vat 1 rfl).cell (m := 2) rfl
    have HMI := hide (mlP_good W H r gs pos cs g po c n S P (some ⟨g3, 0, none⟩) g3 0 m c3 ms W5 hW1 hW hH1 hH hr (unhide HN) ((unhide HK5).fat 0 rfl) ((unhide HK5).fat 1 rfl) (unhide HSt) (unhide HPt) (unhide HST) (unhide HML) hfew (unhide HM5).mvi)
    unfold fldV at HMI
    go_wp2_with fail
    refine (unhide HMI).mono ?_
    rintro e W6 ⟨⟨i6, q, cap, hi6, rfl, hrt⟩, hb6⟩
    obtain rfl := hi6.uniq (unhide HGO)
    have e6 : mlC P W H r S ms i6 = 0 := by have := mlC_end (P := P) (W := W) (H := H) (r := r) (S := S) (ms := ms); rwa [unhide HML] at this
    have e7 : mlB ms i6 = 0 := by have := mlB_end (ms := ms); rwa [unhide HML] at this
    obtain ⟨sm, e8, e9⟩ := unhide HTK
    rw [e6, e7]
    rw [e8] at hrt ⊢
    simp only at hrt ⊢
    rw [e9] at hrt
    obtain ⟨smT, cu, ai, de⟩ := sm
    simp only at e9
    unfold pnV
    simp only
    have hA : Below W6.heap.size W6 (W6.alloc (.cells #[.int .i64 0, .int .i64 0, .int .i64 (W : Int), .int .i64 (H : Int), .slice (some ⟨q, 0, none⟩) n cap, .int .i64 cu, .int .i64 ai, .int .i64 de] 34)) := ba (Below.refl _ _) _
    have HK7 := hide (((unhide HK5).next (bc hb6 hA)).addv (vb_new W6 34 [.int .i64 0, .int .i64 0, .int .i64 (W : Int), .int .i64 (H : Int), .slice (some ⟨q, 0, none⟩) n cap, .int .i64 cu, .int .i64 ai, .int .i64 de] W6.heap.size rfl))
    have HRT : Hid (Fd (W6.alloc (.cells #[.int .i64 0, .int .i64 0, .int .i64 (W : Int), .int .i64 (H : Int), .slice (some ⟨q, 0, none⟩) n cap, .int .i64 cu, .int .i64 ai, .int .i64 de] 34)) q 0 n cap TT) := hide ((hrt.fd).bel hA)
    have HK8 := hide ((unhide HK7).addf (unhide HRT))
    clear hA hb6 hrt hi6 e6 e7 e8 e9 HMI HK5 HM5 k0 k1 k2 j0 j1 j2 HK7 HRT HTK HGO
    go_upto_region 12 with fail
    generalize W6.alloc (.cells #[.int .i64 0, .int .i64 0, .int .i64 (W : Int), .int .i64 (H : Int), .slice (some ⟨q, 0, none⟩) n cap, .int .i64 cu, .int .i64 ai, .int .i64 de] 34) = W7 at *
    generalize W6.heap.size = b13 at *
    have j0 := ((unhide HK8).vat 2 rfl).cell (m := 0) rfl
    have j1 := ((unhide HK8).vat 2 rfl).cell (m := 1) rfl
    have j2 := ((unhide HK8).vat 2 rfl).cell (m := 2) rfl
    have HFL := hide (flP_good W H r g po n c P W7 (unhide HOP) hr ((unhide HK8).fat 2 rfl))
    unfold fldV at HFL
    go_wp2_with fail
    refine (unhide HFL).mono ?_
    rintro e W8 ⟨⟨qf, cf, rfl, hrf⟩, hb8⟩
    have hA : Below W8.heap.size W8 (W8.alloc (.cells #[.int .i64 (W : Int), .int .i64 (H : Int), .slice (some ⟨qf, 0, none⟩) n cf] 25)) := ba (Below.refl _ _) _
    have HK9 := hide ((((unhide HK8).next (bc hb8 hA)).addv (vb_new W8 25 [.int .i64 (W : Int), .int .i64 (H : Int), .slice (some ⟨qf, 0, none⟩) n cf] W8.heap.size rfl)).addf ((hrf.fd).bel hA))
    clear hA hb8 hrf HFL HK8 j0 j1 j2
    go_upto_region 13 with fail
    generalize W8.alloc (.cells #[.int .i64 (W : Int), .int .i64 (H : Int), .slice (some ⟨qf, 0, none⟩) n cf] 25) = W9 at *
    generalize W8.heap.size = b14 at *
    obtain ⟨FL, hFL⟩ : ∃ FL, flL W H r P = FL := ⟨_, rfl⟩
    rw [hFL] at HK9 HFB
    simp only [hFL] at HZL HFG
    have HFLL : Hid (FL.length = n) := hide (by rw [← hFL, flL_len', unhide HN])
    clear hFL
    -- vs: b14, b13, b5, b6; fs: floor, left, stock, part
    have d0 := ((unhide HK9).vat 1 rfl).cell (m := 0) rfl
    have d4 := ((unhide HK9).vat 1 rfl).cell (m := 4) rfl
    have k2 := ((unhide HK9).vat 2 rfl).cell (m := 2) rfl
    have nn : ((n : Int) != (n : Int)) = false := by simp
    go_wp2_with fail
    clear d0 d4 k2
    generalize hWz : W9 = Wz at *
    clear hWz
    go_loopw [16, 17] (fun z16 z X => ∃ k : Nat, z = .int .i64 (k : Int) ∧ k ≤ n ∧ z16 = .int .i64 (rsum TT P k) ∧ Same Wz X) (fun _ z _ => n - (intOf z).toNat)
    case atStart => exact ⟨0, rfl, Nat.zero_le _, rfl, by repeat (first | exact Same.refl _ | refine Same.drew ?_ | refine Same.dnz ?_ _)⟩
    case round =>
      obtain ⟨k, rfl, hk, rfl, hsm⟩ := hrel
      have HSM := hide hsm
      have HKx := hide ((unhide HK9).next hsm.bel)
      have k2 := ((unhide HKx).vat 2 rfl).cell (m := 2) rfl
      clear hsm
      by_cases h : k < n
      · have l1 : (k : Int) < (n : Int) := by omega
        have l0 : (0 : Int) ≤ (k : Int) := Int.natCast_nonneg _
        have lz : decide ((k : Int) < (n : Int)) = true := decide_eq_true l1
        have d4 := ((unhide HKx).vat 1 rfl).cell (m := 4) rfl
        have f2 := ((unhide HKx).vat 0 rfl).cell (m := 2) rfl
        have j2 := ((unhide HKx).vat 3 rfl).cell (m := 2) rfl
        have cF := iat ((unhide HKx).fat 0 rfl).ints (i := k) (by rw [unhide HFLL]; exact h)
        have cT := iat ((unhide HKx).fat 1 rfl).ints (i := k) (by rw [(unhide HTO).1]; exact h)
        have cS := iat ((unhide HKx).fat 2 rfl).ints (i := k) (by rw [unhide HSL]; exact h)
        have cP := iat ((unhide HKx).fat 3 rfl).ints (i := k) (by rw [unhide HPL]; exact h)
        rw [Nat.zero_add] at cF cT
        have hzl := unhide HZL k h
        have b1 := unhide HSt k
        have b2 := unhide HPt k
        have b3 := (unhide HTO).2 k
        have b4 := unhide HFB k
        have b5' := unhide HUN k (by rw [unhide HPL]; exact h)
        have b6' := unhide HFG k (by rw [← unhide HN]; exact h)
        have HRS := hide (rsum_flat (T := TT) (P := P) (k := k) (by omega))
        have hrb := rsum_bound (A := TT) (B := P) (unhide HTO).2 (unhide HPt) k
        generalize rsum TT P k = R0 at *
        generalize tp TT k = tT at *
        generalize tp P k = tP at *
        generalize tp S k = tS at *
        generalize tp FL k = tF at *
        have hR1 : -1000000 ≤ R0 ∧ R0 ≤ 1000000 := by omega
        have hE : (tT != min tS tF) = false := by rw [hzl]; simp
        have w1 : IntKind.i64.wrap (tT - tP) = tT - tP := Go.IntWalk.i64_in _ ⟨by omega, by omega⟩
        have w2 : IntKind.i64.wrap (R0 + (tT - tP)) = R0 + (tT - tP) := Go.IntWalk.i64_in _ ⟨by omega, by omega⟩
        clear hzl b1 b2 b3 b4 b5' b6' hrb
        go_wp2_with fail
        go_quiet (fail)
        go_wp2_with fail
        go_quiet (fail)
        go_wp2_with fail
        go_roundw
        case rel => exact ⟨k + 1, by simp, h, by rw [unhide HRS], by repeat (first | exact unhide HSM | refine Same.drew ?_ | refine Same.dnz ?_ _)⟩
        case measure => simp only [intOf]; omega
      · have lz : decide ((k : Int) < (n : Int)) = false := decide_eq_false (by omega)
        obtain rfl : n = k := by omega
        have d2 := ((unhide HKx).vat 1 rfl).cell (m := 2) rfl
        have d3 := ((unhide HKx).vat 1 rfl).cell (m := 3) rfl
        have d4 := ((unhide HKx).vat 1 rfl).cell (m := 4) rfl
        have j0 := ((unhide HKx).vat 3 rfl).cell (m := 0) rfl
        have j1 := ((unhide HKx).vat 3 rfl).cell (m := 1) rfl
        have j2 := ((unhide HKx).vat 3 rfl).cell (m := 2) rfl
        have HRP := hide (rsP_any (W : Int) (H : Int) (some ⟨q, 0, none⟩) q 0 n cap TT (W : Int) (H : Int) (some ⟨g, po, none⟩) g po n c P wr (unhide HTO).1 (by omega) ((unhide HKx).fat 1 rfl).its (unhide HPL) (by omega) ((unhide HKx).fat 3 rfl).its)
        have hpr : FPair (W : Int) (H : Int) TT (W : Int) (H : Int) P := ⟨fok_of hW1 hW hH1 hH (unhide HN) (unhide HTO).1 (unhide HTO).2, unhide HOP, rfl, rfl⟩
        unfold restS restC fldV at HRP
        rw [if_pos hpr, if_pos hpr, (unhide HTO).1] at HRP
        have re : (rsum TT P n == rsum TT P n) = true := by simp
        have HBX := hide (unhide HKx).bel
        generalize rsum TT P n = RR at *
        clear hpr
        go_wp2_with fail
        refine (unhide HRP).mono ?_
        rintro e Wr ⟨rfl, hbr⟩
        have HBR := hide (bc (unhide HBX) hbr)
        clear hbr
        go_wp2_with fail
        go_ret
        exact ⟨by first | rfl | simp, unhide HBR⟩
  · obtain ⟨hE3, rfl⟩ : E3 = 18 ∧ v3 = .slice none 0 0 := by
      rcases unhide HZ3 with ⟨h1, _⟩ | ⟨_, h1, h2⟩
      · omega
      · exact ⟨h1, h2⟩
    obtain ⟨hE4, hm4⟩ : E4 = 18 ∧ Mrow W4 W3.heap.size v4 0 [] := by
      rcases hz4 with ⟨h1, _⟩ | ⟨_, h1, h2⟩
      · omega
      · exact ⟨h1, h2⟩
    subst hE3 hE4
    obtain ⟨u4, c4, rfl, _⟩ := hm4.form
    have HSM := hide (smv_same none u4 0 _ 0 0 c4 [] W4 (by omega) ⟨rfl, .inl ⟨rfl, rfl⟩⟩ hm4)
    clear hm4 hz4 HZ3 hb4 hfew
    go_wp2_with fail
    refine (unhide HSM).mono ?_
    rintro e W5 ⟨rfl, hb5⟩
    have HB5 := hide (bc (unhide HK4).bel hb5)
    clear hb5
    go_wp2_with fail
    go_ret
    exact ⟨by first | rfl | simp, unhide HB5⟩
end Go.Proofs.Ytjhldjojkaphkaa

namespace Go.Proofs.Ytjhldjojkaphkaa
open Go.ChangeShapes Go.WideShapes Go.ChangeAt Go.RowKit
set_option linter.unusedVariables false
set_option linter.unusedSimpArgs false


/-- what the walk is told of bytes that came in -/
def IsRow (k : IntKind) (w : World) (a : Option Addr) (len cap : Nat) (zs : List Int) : Prop :=
  (a = none ∧ len = 0 ∧ cap = 0 ∧ zs = []) ∨
  ∃ x, a = some x ∧ len ≤ cap ∧ cap ≤ maxLen ∧ zs.length = cap ∧ (∀ i, i < zs.length → w.cell? (x.add i) = some (.int k (zs.getD i 0))) ∧ ∀ n ∈ zs, (Lit.int k n).wf = true
theorem row_code {w : World} {a : Option Addr} {len cap : Nat} {zs : List Int} (h : IsRow .u8 w a len cap zs) : Code w.heap.size w a len cap zs ∧ len ≤ maxLen := by
  rcases h with ⟨rfl, rfl, rfl, rfl⟩ | ⟨x, rfl, hl, hm, hz, hcell, hwz⟩
  · exact ⟨.inl rfl, by unfold maxLen; omega⟩
  · refine ⟨?_, Nat.le_trans hl hm⟩
    by_cases h0 : len = 0
    · exact .inl h0
    · obtain ⟨b, off, spot⟩ := x
      have hc := hcell 0 (by omega)
      have hspot : spot = none := by simpa [Addr.add] using World.cell?_spot hc
      subst hspot
      have hc0 : w.cell? ⟨b, off, none⟩ = some (.int .u8 (zs.getD 0 0)) := by simpa [Addr.add] using hc
      refine .inr ⟨b, off, rfl, cell_lt hc0, cell_lt hc0, hl, hm, hz, fun i hi => ?_, fun i => ?_⟩
      · have hci := hcell i hi
        by_cases e0 : i = 0
        · subst e0; simpa [Addr.add] using hci
        · simpa [Addr.add, e0] using hci
      by_cases hi : i < zs.length
      · have e : zs.getD i 0 = zs[i] := by simp [List.getD, hi]
        rw [e]
        exact bounds_u8 (hwz _ (List.getElem_mem hi))
      · have e : zs.getD i 0 = 0 := by simp [List.getD, List.getElem?_eq_none (Nat.le_of_not_lt hi)]
        rw [e]; omega

set_option maxHeartbeats 400000 in
set_option maxRecDepth 100000 in
theorem fnZigzag_walk (a : Option Addr) (len cap : Nat) (zs : List Int) (a2 : Option Addr) (len2 cap2 : Nat) (zs2 : List Int) (w : World) (h : IsRow .u8 w a len cap zs) (h2 : IsRow .u8 w a2 len2 cap2 zs2) :
    Calls Try.prog 3 #[.slice a len cap, .slice a2 len2 cap2] w fun e w' => e = .returned (.bool true) ∧ Below w.heap.size w w' := by
  obtain ⟨hc, hm⟩ := row_code h
  obtain ⟨hc2, hm2⟩ := row_code h2
  unfold maxLen at hm hm2
  by_cases hl : len ≤ 1048576
  · by_cases hl2 : len2 ≤ 1048576
    · exact fnZigzag_core a a2 len cap len2 cap2 zs zs2 w hl hl2 hc hc2
    · have t1 : decide ((1048576 : Int) < (len : Int)) = false := decide_eq_false (by omega)
      have t2 : decide ((1048576 : Int) < (len2 : Int)) = true := decide_eq_true (by omega)
      clear hc h hc2 h2
      go_enter Try.func3, Try.ntmps3
      go_wp2
      go_ret
      exact ⟨rfl, Below.refl _ _⟩
  · have t1 : decide ((1048576 : Int) < (len : Int)) = true := decide_eq_true (by omega)
    clear hc h hc2 h2
    go_enter Try.func3, Try.ntmps3
    go_wp2
    go_ret
    exact ⟨rfl, Below.refl _ _⟩

theorem fnZigzag_own : ownKnob Try.prog.godebug = none := by kernel_rfl
theorem fnZigzag_laidOut : laidOutB Try.prog = true := by kernel_rfl

set_option maxRecDepth 100000 in
theorem fnZigzag_lifted (os : Os) (started : os.Started) (H : Type) (enc : TypeId × Value → H) :
    ReturnsInHanded {} Try.checked os 3 .any (Rows.fnZigzagSpec.pre6 enc Try.prog Try.f3 Rows.fnZigzagRow.domain false) (Rows.fnZigzagSpec.post enc Try.prog Try.f3 false true false false) := by
  refine returnsInHanded_of_change (C := Try.checked) fnZigzag_own started (by kernel_rfl) Try.func3
    (ChangeSpec.witness6 (enc := enc) (C := Try.checked) false ⟨#[], #[.slice none 0 0, .slice none 0 0], []⟩ 8 (by kernel_rfl) (by kernel_rfl) (by kernel_rfl) (by kernel_rfl)) ?_
  intro W base args ds gs before hval0 hW hcnd _
  have hval : ∀ (j : Nat) t v, Try.f3.params[j]? = some t → args[j]? = some v → Value.okWide Try.prog W .any base t v := hval0
  have hW' := hW
  obtain ⟨p, q, hA0, hV, rfl, hfz, hnd⟩ := hW
  have hA : DataW.TrodAll enc Try.prog W 0 (fun _ => true) true Try.f3.params.toList args.toList ds p := hA0
  rw [Try.params3] at hA hval
  obtain ⟨v0, vs0, d0, ds0, p0, q0, hargs, rfl, rfl, h0, r0⟩ := trodAll_cons hA
  obtain ⟨v1, vs1, d1, ds1, p1, q1, rfl, rfl, rfl, h1, r1⟩ := trodAll_cons r0
  obtain ⟨rfl, rfl, rfl⟩ := trodAll_nil r1
  obtain rfl : args = #[v0, v1] := by cases args; simp_all
  obtain ⟨rfl, rfl⟩ := trodVars_none hV
  obtain ⟨a0, len0, cap0, rfl⟩ := okWide_slice Try.underlying22 (hval 0 22 v0 rfl rfl)
  have k0 := h0
  have lt0 : ∀ x ∈ p0, x.block < W.heap.size := by obtain ⟨m, hm⟩ := k0; exact DataW.trod_lt m _ _ _ hm
  obtain ⟨z0, w0⟩ : ∃ zs, IsRow .u8 W a0 len0 cap0 zs := by
    obtain ⟨fuel, hf⟩ := h0
    rcases open_ints Try.underlying22 Try.underlying5 (by kernel_rfl) hf with ⟨hcs, _⟩ | ⟨x, l, c, zs, hcs, _, hl, hm, hz, _, hcell, hwz⟩
    · simp [Value.cells] at hcs
      obtain ⟨rfl, rfl, rfl⟩ := hcs
      exact ⟨[], .inl ⟨rfl, rfl, rfl, rfl⟩⟩
    · simp [Value.cells] at hcs
      obtain ⟨rfl, rfl, rfl⟩ := hcs
      exact ⟨zs, .inr ⟨_, rfl, hl, hm, by simpa using hz, hcell, hwz⟩⟩
  obtain ⟨a1, len1, cap1, rfl⟩ := okWide_slice Try.underlying22 (hval 1 22 v1 rfl rfl)
  have k1 := h1
  have lt1 : ∀ x ∈ p1, x.block < W.heap.size := by obtain ⟨m, hm⟩ := k1; exact DataW.trod_lt m _ _ _ hm
  obtain ⟨z1, w1⟩ : ∃ zs, IsRow .u8 W a1 len1 cap1 zs := by
    obtain ⟨fuel, hf⟩ := h1
    rcases open_ints Try.underlying22 Try.underlying5 (by kernel_rfl) hf with ⟨hcs, _⟩ | ⟨x, l, c, zs, hcs, _, hl, hm, hz, _, hcell, hwz⟩
    · simp [Value.cells] at hcs
      obtain ⟨rfl, rfl, rfl⟩ := hcs
      exact ⟨[], .inl ⟨rfl, rfl, rfl, rfl⟩⟩
    · simp [Value.cells] at hcs
      obtain ⟨rfl, rfl, rfl⟩ := hcs
      exact ⟨zs, .inr ⟨_, rfl, hl, hm, by simpa using hz, hcell, hwz⟩⟩
  clear hA0 hval0
  refine (fnZigzag_walk a0 len0 cap0 z0 a1 len1 cap1 z1 W w0 w1).mono fun e W' ⟨he, bel⟩ => ?_
  subst he
  exact ⟨_, rfl, _, _, _, [], _, [], hW', trodAll_mk1 (shut_bool Try.underlying4 _), (trodAll_cons_mk (Below.trod fnZigzag_laidOut (by kernel_rfl) (of_decide_eq_true (by kernel_rfl)) k0 bel lt0) (trodAll_cons_mk (Below.trod fnZigzag_laidOut (by kernel_rfl) (of_decide_eq_true (by kernel_rfl)) k1 bel lt1) trodAll_mk0)), rfl, bel.frame _, fun h => by cases h⟩

theorem fnZigzag_over : Rows.fnZigzagRow.holds Try.pinned (OpenSpec.ofChange Rows.fnZigzagSpec) :=
  OpenClaim.holds_of_wide 3 Try.f3 rfl rfl rfl rfl rfl rfl rfl ⟨rfl, rfl, rfl, rfl, rfl⟩ rfl rfl rfl rfl rfl (by kernel_rfl) Try.func3 (by kernel_rfl)
    (of_decide_eq_true (by kernel_rfl)) (by unfold Func.isWrapper; first | (rw [if_pos (by decide +kernel)]; kernel_rfl) | (rw [if_neg (by decide +kernel)]; exact ⟨rfl, rfl⟩))
    (fun os started H enc _ => fnZigzag_lifted os started H enc)

/-- The statement, as it was given. -/
theorem fnZigzag_holds : Rows.FnZigzagSaid := fnZigzag_over
#print axioms fnZigzag_holds
end Go.Proofs.Ytjhldjojkaphkaa
