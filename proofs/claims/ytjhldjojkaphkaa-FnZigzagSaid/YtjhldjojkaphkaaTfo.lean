/-
  The field's points to and fro, as an iterator.
-/
import Derived.Test.YtjhldjojkaphkaaRix
namespace Go.Proofs.Ytjhldjojkaphkaa
open Go.ChangeShapes Go.WideShapes Go.ChangeAt Go.RowKit Go.Shelf
attribute [local go_sem] Oper.semAt_some
set_option linter.unusedVariables false
set_option linter.unusedSimpArgs false

theorem tfoM (W H n c g po : Nat) (w : World) :
    Calls Try.prog 76 #[fldV (W : Int) (H : Int) (some ⟨g, po, none⟩) n c] w fun e w' => e = .returned (.func (.func 94) #[] #[.pointer (some ⟨w.heap.size, 0, none⟩)]) ∧ w' = w.alloc (.cells #[.int .i64 (W : Int), .int .i64 (H : Int), .slice (some ⟨g, po, none⟩) n c] 25) := by
  unfold fldV
  go_enter Try.func76, Try.ntmps76
  go_wp2_with fail
  go_ret
  exact ⟨rfl, rfl⟩
/-- where the k-th point lies along its row -/
def tfx (W k : Nat) : Nat := if k / W % 2 = 1 then W - 1 - k % W else k % W
def tfp (W k : Nat) : Array Value := #[.agg #[.int .i64 ((tfx W k : Nat) : Int), .int .i64 ((k / W : Nat) : Int)]]
/-- the blocks of O, and these two, and perhaps one more -/
def ex2 (O : Nat → Prop) (p q : Nat) : Nat → Prop := fun b => O b ∨ b = p ∨ b = q
def ex3 (O : Nat → Prop) (p q r : Nat) : Nat → Prop := fun b => ex2 O p q b ∨ b = r
/-- between two rounds of an iterator that goes through another one -/
structure Tw (J : (Nat → Prop) → Nat → World → Prop) (l by_ br Bf T W H n c g po : Nat) (O : Nat → Prop) (k : Nat) (X : World) : Prop where
  j : J (ex2 O by_ br) k X
  vy : vb X by_ 118 [.func (.yield l) #[] #[]]
  vr : vb X br 25 [.int .i64 (W : Int), .int .i64 (H : Int), .slice (some ⟨g, po, none⟩) n c]
  vf : vb X Bf 25 [.int .i64 (W : Int), .int .i64 (H : Int), .slice (some ⟨g, po, none⟩) n c]
  far : ∀ b, O b → T ≤ b
  big : T ≤ X.heap.size
set_option maxRecDepth 100000 in
set_option maxHeartbeats 4000000 in
theorem tfoX (W H n c g po Bf : Nat) (R : Nat → Prop) (w : World) (hW1 : 1 ≤ W) (hW : W ≤ 24) (hH : H ≤ 24) (hB : R Bf) (hv : vb w Bf 25 [.int .i64 (W : Int), .int .i64 (H : Int), .slice (some ⟨g, po, none⟩) n c]) :
    SeqX Try.prog 94 #[.pointer (some ⟨Bf, 0, none⟩)] (tfp W) (W * H) R w := by
  intro l J Jx W0 hW0 hJ hJx hY h0
  have hv0 := hv.bel hW0
  have HY := hide hY
  have HJ := hide hJ
  have HJX := hide hJx
  have HJ0 := hide h0
  have HV0 := hide hv0
  have HBf := hv0.lt
  have HRM := hide (fun X => risM W H n c g po X)
  have hA : Below W0.heap.size W0 (W0.alloc (.cells #[.func (.yield l) #[] #[]] 118)) := ba (Below.refl _ _) _
  have HV1 := hide (hv0.bel hA)
  have HVY := hide (vb_new W0 118 [.func (.yield l) #[] #[]] W0.heap.size rfl)
  have HB1 := hide hA
  unfold fldV at *
  clear hv hv0 hW0 hJ hJx hY h0 hA
  refine callsIn_of_wp_marks Try.func94 rfl trivial ?_ rfl
  simp only [Try.ntmps94, List.size_toArray, List.length_cons, List.length_nil, Nat.reduceAdd, Nat.reduceSub, Array.replicate_succ, Array.replicate_zero, List.push_toArray, List.append_toArray, List.nil_append, List.cons_append]
  have k0 := (unhide HV0).cell (m := 0) rfl
  have k1 := (unhide HV0).cell (m := 1) rfl
  have k2 := (unhide HV0).cell (m := 2) rfl
  gi_wp2
  refine ⟨trivial, rfl, (callsIn_wide.2 (unhide HRM _)).mono ?_⟩
  rintro _ Wq ⟨rfl, hq⟩
  rw [hq]
  clear hq k0 k1 k2
  gi_wp2
  have hA : Below (W0.alloc (.cells #[.func (.yield l) #[] #[]] 118)).heap.size (W0.alloc (.cells #[.func (.yield l) #[] #[]] 118)) ((W0.alloc (.cells #[.func (.yield l) #[] #[]] 118)).alloc (.cells #[.int .i64 (W : Int), .int .i64 (H : Int), .slice (some ⟨g, po, none⟩) n c] 25)) := ba (Below.refl _ _) _
  have hbl := bc (unhide HB1) hA
  have HVF := hide ((unhide HV1).bel hA)
  have HVY2 := hide ((unhide HVY).bel hA)
  have HVR := hide (vb_new2 W0 25 [.int .i64 (W : Int), .int .i64 (H : Int), .slice (some ⟨g, po, none⟩) n c] (.cells #[.func (.yield l) #[] #[]] 118))
  have HJ1 := hide (unhide HJ (fun _ => False) (ex2 (fun _ => False) W0.heap.size (W0.heap.size + 1)) 0 _ _ (unhide HJ0) (Grw.of_bel hbl) (fun b hb => by rcases hb with h | h | h; exact h.elim; exact .inr (by omega); exact .inr (by omega)))
  have hT : ((W0.alloc (.cells #[.func (.yield l) #[] #[]] 118)).alloc (.cells #[.int .i64 (W : Int), .int .i64 (H : Int), .slice (some ⟨g, po, none⟩) n c] 25)).heap.size = W0.heap.size + 2 := by simp
  clear hA hbl HV1 HVY HB1 HV0 HJ0
  generalize (W0.alloc (.cells #[.func (.yield l) #[] #[]] 118)).alloc (.cells #[.int .i64 (W : Int), .int .i64 (H : Int), .slice (some ⟨g, po, none⟩) n c] 25) = WL at *
  refine range_x (R := fun b => b = W0.heap.size + 1) (N := W * H) (gf := 86) (lb := #[.pointer (some ⟨W0.heap.size + 1, 0, none⟩)]) rfl (enters_of Try.func86 (by kernel_rfl) rfl) (fun b hb => by omega) (risX W H n c g po (W0.heap.size + 1) _ WL hW1 hW hH rfl (unhide HVR)) (Below.refl _ _) (fun _ => rfl)
    (Tw J l W0.heap.size (W0.heap.size + 1) Bf (W0.heap.size + 2) W H n c g po) (fun O k X => Jx (ex2 O W0.heap.size (W0.heap.size + 1)) k X ∧ (∀ b, O b → W0.heap.size + 2 ≤ b) ∧ W0.heap.size + 2 ≤ X.heap.size) ?hI ?hIx
    ⟨unhide HJ1, unhide HVY2, unhide HVR, unhide HVF, fun _ h => h.elim, by omega⟩
    (fun O k a' X => ∃ b3, vb X b3 46 [.int .i64 ((k % W : Nat) : Int), .int .i64 ((k / W : Nat) : Int)] ∧ ¬ O b3 ∧ W0.heap.size + 2 ≤ b3 ∧ J (ex3 O W0.heap.size (W0.heap.size + 1) b3) k X ∧ (∀ b, O b → W0.heap.size + 2 ≤ b) ∧ a' = ({ tmps := #[.func (.yield l) #[] #[], .pointer (some ⟨Bf, 0, none⟩), .pointer (some ⟨W0.heap.size, 0, none⟩), .pointer (some ⟨b3, 0, none⟩), .agg #[.int .i64 (W : Int), .int .i64 (H : Int), .slice (some ⟨g, po, none⟩) n c], .func (.func 86) #[] #[.pointer (some ⟨W0.heap.size + 1, 0, none⟩)], .agg #[.int .i64 ((k % W : Nat) : Int), .int .i64 ((k / W : Nat) : Int)], undef, undef, undef, undef, undef, undef, undef, undef, undef, undef, undef, undef, undef, undef, undef], defers := [] } : Act))
    ?hAx ?assign ?body ?done ?stop
  case hI =>
    rintro O O' k A B ⟨hj, hy, hr, hf, hfar, hbig⟩ hg hO
    have hbel : Below (W0.heap.size + 2) A B := hg.bel hbig hfar
    refine ⟨unhide HJ _ _ _ _ _ hj (hg.mono (fun b hb => .inl hb)) (fun b hb => ?_), hy.below hbel (by omega), hr.below hbel (by omega), hf.below hbel (by omega), fun b hb => (hO b hb).elim (hfar b) (fun h => by omega), Nat.le_trans hbig hg.size⟩
    rcases hb with h | h
    · exact (hO b h).elim (fun h => .inl (.inl h)) .inr
    · exact .inl (.inr h)
  case hIx =>
    rintro O O' k A B ⟨hj, hfar, hbig⟩ hg hO
    refine ⟨unhide HJX _ _ _ _ _ hj (hg.mono (fun b hb => .inl hb)) (fun b hb => ?_), fun b hb => (hO b hb).elim (hfar b) (fun h => by omega), Nat.le_trans hbig hg.size⟩
    rcases hb with h | h
    · exact (hO b h).elim (fun h => .inl (.inl h)) .inr
    · exact .inl (.inr h)
  case hAx =>
    rintro O k a' A B ⟨b3, h1, h2, h3, h4, h5, h6⟩ hg
    exact ⟨b3, (hg.block _ h1.lt h2).trans h1, h2, h3, unhide HJ _ _ _ _ _ h4 (hg.mono (fun b hb => .inl (.inl hb))) (fun b hb => .inl hb), h5, h6⟩
  case assign =>
    intro l' O k X K hk hO hi hK
    have HK := hide hK
    have HI := hide hi
    clear hK hi
    unfold ptk
    gi_wp2
    have hA : Below X.heap.size X (X.alloc (.cells #[.int .i64 ((k % W : Nat) : Int), .int .i64 ((k / W : Nat) : Int)] 46)) := ba (Below.refl _ _) _
    have h := unhide HI
    exact unhide HK _ _ (Kpx.of_bel hA) ⟨unhide HJ _ _ _ _ _ h.j (Grw.of_bel hA) (fun b hb => .inl hb), h.vy.bel hA, h.vr.bel hA, h.vf.bel hA, h.far, Nat.le_trans h.big hA.size⟩ ⟨X.heap.size, vb_new X 46 _ _ rfl, fun hh => by have := (hO _ hh).2; omega, h.big, unhide HJ _ _ _ _ _ h.j (Grw.of_bel hA) (fun b hb => hb.elim .inl (fun e => .inr (by omega))), h.far, rfl⟩
  case body =>
    rintro l' O k a' X _ hOl hk hO hi ⟨b3, h3, hn3, hl3, hj3, _, rfl⟩
    have HI := hide hi
    have H3 := hide h3
    have HJ3 := hide hj3
    have hWp : 0 < W := by omega
    obtain ⟨x, hx⟩ : ∃ x, k % W = x := ⟨_, rfl⟩
    obtain ⟨y, hy'⟩ : ∃ y, k / W = y := ⟨_, rfl⟩
    have hxW : x < W := by rw [← hx]; exact Nat.mod_lt _ hWp
    have hyH : y < H := by rw [← hy']; exact Nat.div_lt_of_lt_mul hk
    rw [hx, hy'] at H3 ⊢
    have HOB : Hid (∀ Y : World, X.heap.size ≤ Y.heap.size → ∀ b, ex3 O W0.heap.size (W0.heap.size + 1) b3 b → W0.heap.size ≤ b ∧ b < Y.heap.size) := hide (fun Y hY b hb => by
      have h1 := (unhide HI).big
      have h2 := (unhide H3).lt
      rcases hb with (h | h | h) | h
      · have := hO b h; omega
      · omega
      · omega
      · omega)
    have HVY := hide hi.vy
    have HVR := hide hi.vr
    have HVF := hide hi.vf
    have p0 := (unhide H3).cell (m := 0) rfl
    have p1 := (unhide H3).cell (m := 1) rfl
    have pf := (unhide H3).frozen
    have y0 := hi.vy.cell (m := 0) rfl
    have f0 := hi.vf.cell (m := 0) rfl
    have hbb := hi.big
    have hvylt := hi.vy.lt
    have w1 : IntKind.i64.wrap ((W : Int) - 1) = (W : Int) - 1 := wrap_i (by omega) (by omega)
    clear hi h3 hj3
    by_cases hodd : y % 2 = 1
    · have et : (y : Int).tmod 2 = 1 := by rw [Int.tmod_eq_emod_of_nonneg (by omega)]; omega
      have et2 : (y : Int) % 2 = 1 := by omega
      have w2 : IntKind.i64.wrap ((W : Int) - 1 - (x : Int)) = ((W - 1 - x : Nat) : Int) := (wrap_i (by omega) (by omega)).trans (by omega)
      have HTP : Hid (tfp W k = #[.agg #[.int .i64 ((W - 1 - x : Nat) : Int), .int .i64 (y : Int)]]) := hide (by unfold tfp tfx; rw [hx, hy', if_pos hodd])
      obtain ⟨xx, hxx⟩ : ∃ q, W - 1 - x = q := ⟨_, rfl⟩
      rw [hxx] at w2 HTP
      have H3b := hide ((unhide H3).set 0 (.int .i64 (xx : Int)))
      have n30 : W0.heap.size ≠ b3 := by omega
      have n31 : W0.heap.size + 1 ≠ b3 := by omega
      have n3f : Bf ≠ b3 := by omega
      have HVYb := hide ((unhide HVY).ne (o := 0) (x := .int .i64 (xx : Int)) n30)
      have HVRb := hide ((unhide HVR).ne (o := 0) (x := .int .i64 (xx : Int)) n31)
      have HVFb := hide ((unhide HVF).ne (o := 0) (x := .int .i64 (xx : Int)) n3f)
      have HJ3b := hide (unhide HJ _ (ex3 O W0.heap.size (W0.heap.size + 1) b3) _ _ _ (unhide HJ3) (Grw.cell (o := 0) (.inr rfl) (.int .i64 (xx : Int))) (fun b hb => .inl hb))
      have HK1 := hide (Kpx.cell (R := fun b => b = W0.heap.size + 1) (O := O) (A := X) (o := 0) (show ¬ (b3 = W0.heap.size + 1) by omega) hn3 (.int .i64 (xx : Int)))
      have HSZ := hide (show X.heap.size ≤ (X.setCell ⟨b3, 0, none⟩ (.int .i64 (xx : Int))).heap.size by simp)
      have HS1 := hide (fun (b : Nat) (hb : b ≠ b3) => Below.heap_setCell X ⟨b3, 0, none⟩ (.int .i64 (xx : Int)) b hb)
      clear hxx hx hy'
      obtain ⟨fn, tmps, assign, body, hy, hR⟩ := unhide HY (ex3 O W0.heap.size (W0.heap.size + 1) b3) k _ hk (fun b hb => unhide HOB _ (unhide HSZ) b hb) (unhide HJ3b)
      rw [unhide HTP] at hy
      gi_wp2
      refine ⟨rfl, hR.mono ?_⟩
      rintro _ W3 (⟨rfl, hJ3, hk3⟩ | ⟨rfl, hJx3, hkx⟩)
      · have HJ3 := hide (unhide HJ _ (ex2 O W0.heap.size (W0.heap.size + 1)) _ _ _ hJ3 ⟨rfl, rfl, rfl, Nat.le_refl _, fun _ _ _ => rfl⟩ (fun b hb => .inl (.inl hb)))
        have HVY3 := hide (hk3.vb (unhide HVYb) (.inr (.inl (.inr (.inl rfl)))))
        have HVR3 := hide (hk3.vb (unhide HVRb) (.inr (.inl (.inr (.inr rfl)))))
        have HVF3 := hide (hk3.vb (unhide HVFb) (.inl hB))
        have HKK := hide ((unhide HK1).trans (hk3.sub (R' := fun b => b = W0.heap.size + 1) (O' := O) (fun b hb => .inr (.inl (hb.elim (fun e => .inr (.inr e)) .inl)))))
        have HSZ3 := hide (show W0.heap.size + 2 ≤ W3.heap.size from Nat.le_trans (unhide HI).big (unhide HKK).size)
        clear hJ3 hk3 hR hy
        gi_wp2
        exact ⟨unhide HKK, unhide HJ3, unhide HVY3, unhide HVR3, unhide HVF3, (unhide HI).far, unhide HSZ3⟩
      · have HX3 := hide (unhide HJX _ (ex2 O W0.heap.size (W0.heap.size + 1)) _ _ _ hJx3 ⟨rfl, rfl, rfl, Nat.le_refl _, fun _ _ _ => rfl⟩ (fun b hb => .inl (.inl hb)))
        have HKX := hide hkx
        clear hJx3 hkx hR hy
        gi_wp2
        refine ⟨fun b hb hbl => (unhide HKX b (.inl (.inl hb)) (Nat.lt_of_lt_of_le hbl (unhide HSZ))).trans (unhide HS1 b (fun e => hn3 (by rw [← e]; exact hb))), unhide HX3, (unhide HI).far, ?_⟩
        have h9 := unhide HKX (W0.heap.size + 1) (.inl (.inr (.inr rfl))) (unhide HVRb).lt
        have h8 := (Array.getElem?_eq_some_iff.1 (h9.trans (unhide HVRb))).1
        omega
    · have et : (y : Int).tmod 2 = 0 := by rw [Int.tmod_eq_emod_of_nonneg (by omega)]; omega
      have et2 : (y : Int) % 2 = 0 := by omega
      have HTP : Hid (tfp W k = #[.agg #[.int .i64 (x : Int), .int .i64 (y : Int)]]) := hide (by unfold tfp tfx; rw [hx, hy', if_neg hodd])
      clear hx hy'
      obtain ⟨fn, tmps, assign, body, hy, hR⟩ := unhide HY (ex3 O W0.heap.size (W0.heap.size + 1) b3) k _ hk (fun b hb => unhide HOB _ (Nat.le_refl _) b hb) (unhide HJ3)
      rw [unhide HTP] at hy
      gi_wp2
      refine ⟨rfl, hR.mono ?_⟩
      rintro _ W3 (⟨rfl, hJ3, hk3⟩ | ⟨rfl, hJx3, hkx⟩)
      · have HJ3 := hide (unhide HJ _ (ex2 O W0.heap.size (W0.heap.size + 1)) _ _ _ hJ3 ⟨rfl, rfl, rfl, Nat.le_refl _, fun _ _ _ => rfl⟩ (fun b hb => .inl (.inl hb)))
        have HVY3 := hide (hk3.vb (unhide HVY) (.inr (.inl (.inr (.inl rfl)))))
        have HVR3 := hide (hk3.vb (unhide HVR) (.inr (.inl (.inr (.inr rfl)))))
        have HVF3 := hide (hk3.vb (unhide HVF) (.inl hB))
        have HKK := hide ( (hk3.sub (R' := fun b => b = W0.heap.size + 1) (O' := O) (fun b hb => .inr (.inl (hb.elim (fun e => .inr (.inr e)) .inl)))))
        have HSZ3 := hide (show W0.heap.size + 2 ≤ W3.heap.size from Nat.le_trans (unhide HI).big (unhide HKK).size)
        clear hJ3 hk3 hR hy
        gi_wp2
        exact ⟨unhide HKK, unhide HJ3, unhide HVY3, unhide HVR3, unhide HVF3, (unhide HI).far, unhide HSZ3⟩
      · have HX3 := hide (unhide HJX _ (ex2 O W0.heap.size (W0.heap.size + 1)) _ _ _ hJx3 ⟨rfl, rfl, rfl, Nat.le_refl _, fun _ _ _ => rfl⟩ (fun b hb => .inl (.inl hb)))
        have HKX := hide hkx
        clear hJx3 hkx hR hy
        gi_wp2
        refine ⟨fun b hb hbl => unhide HKX b (.inl (.inl hb)) hbl, unhide HX3, (unhide HI).far, ?_⟩
        have h9 := unhide HKX (W0.heap.size + 1) (.inl (.inr (.inr rfl))) (unhide HVR).lt
        have h8 := (Array.getElem?_eq_some_iff.1 (h9.trans (unhide HVR))).1
        omega
  case done =>
    intro O D X hD hi hK hOD
    have HI := hide hi
    have HK := hide hK
    clear hi hK
    gi_wp2
    refine ⟨by simp, .inl ⟨_, _, rfl, run_takeDeferred (unhide HK), ?_⟩⟩
    exact ⟨_, results_none rfl _ _ _, ⟨_, rfl⟩, _, .inl (unhide HJ _ _ _ _ _ (unhide HI).j (Grw.put (.inl hOD) _) (fun b hb => .inl hb))⟩
  case stop =>
    intro O D k X hD hk hi hK hOD
    have HI := hide hi
    have HK := hide hK
    clear hi hK
    gi_wp2
    refine ⟨by simp, .inl ⟨_, _, rfl, run_takeDeferred (unhide HK), ?_⟩⟩
    exact ⟨_, results_none rfl _ _ _, ⟨_, rfl⟩, _, .inr ⟨k, hk, unhide HJX _ _ _ _ _ (unhide HI).1 (Grw.put (.inl hOD) _) (fun b hb => .inl hb)⟩⟩
end Go.Proofs.Ytjhldjojkaphkaa
