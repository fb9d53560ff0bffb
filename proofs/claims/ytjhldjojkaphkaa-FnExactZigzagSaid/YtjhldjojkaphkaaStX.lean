/-
  The places where a tool may stand, as an iterator.
-/
import Derived.Test.YtjhldjojkaphkaaStq
namespace Go.Proofs.Ytjhldjojkaphkaa
open Go.ChangeShapes Go.WideShapes Go.ChangeAt Go.RowKit Go.Shelf
attribute [local go_sem] Oper.semAt_some
set_option linter.unusedVariables false
set_option linter.unusedSimpArgs false

set_option maxRecDepth 100000 in
set_option maxHeartbeats 8000000 in
theorem stdX (W H n c g po Bs Bf s : Nat) (L : List Int) (R : Nat → Prop) (w : World) (hW1 : 1 ≤ W) (hW : W ≤ 24) (hH1 : 1 ≤ H) (hH : H ≤ 24) (hn : n = W * H) (hs1 : 1 ≤ s) (hs : s ≤ 24) (hRs : R Bs) (hRf : R Bf) (hRg : R g)
    (hvs : vb w Bs 3 [.int .i64 (s : Int)]) (hvf : vb w Bf 25 [.int .i64 (W : Int), .int .i64 (H : Int), .slice (some ⟨g, po, none⟩) n c]) (hF : Fd w g po n c L) :
    SeqX Try.prog 74 #[.pointer (some ⟨Bs, 0, none⟩), .pointer (some ⟨Bf, 0, none⟩)] (plc (lsq (cnd W H s L) (cnC W H s))) (lsq (cnd W H s L) (cnC W H s)).length R w := by
  intro l J Jx W0 hW0 hJ hJx hY h0
  have HY := hide hY
  have HJ := hide hJ
  have HJX := hide hJx
  have HJ0 := hide h0
  have hvs0 := hvs.bel hW0
  have hvf0 := hvf.bel hW0
  have hF0 := hF.bel hW0
  have lBs := hvs0.lt
  have lBf := hvf0.lt
  have lg := hF0.lt
  have HLM := hide (fun X => lvM (s : Int) X)
  have HTM := hide (fun X => tfoM W H n c g po X)
  have HRM := hide (fun X => risM W H n c g po X)
  have HTP := hide (fun (x y : Nat) X (hX : Fd X g po n c L) hx hy => tpP_any W H n c g po L x y X hW hH hn hX hx hy)
  have hA : Below W0.heap.size W0 (W0.alloc (.cells #[.func (.yield l) #[] #[]] 106)) := ba (Below.refl _ _) _
  have HSH : Hid (Sh W0.heap.size Bs Bf l s W H n c g po L (W0.alloc (.cells #[.func (.yield l) #[] #[]] 106))) := hide ⟨vb_new W0 106 _ _ rfl, hvs0.bel hA, hvf0.bel hA, hF0.bel hA⟩
  have HB1 := hide hA
  have s0 := hvs0.cell (m := 0) rfl
  unfold fldV at *
  clear hvs hvf hF hW0 hJ hJx hY h0 hA hvs0 hvf0 hF0 hn
  refine callsIn_of_wp_marks Try.func74 rfl trivial ?_ rfl
  simp only [Try.ntmps74, List.size_toArray, List.length_cons, List.length_nil, Nat.reduceAdd, Nat.reduceSub, Array.replicate_succ, Array.replicate_zero, List.push_toArray, List.append_toArray, List.nil_append, List.cons_append]
  gi_wp2
  refine ⟨trivial, rfl, (callsIn_wide.2 (unhide HLM _)).mono ?_⟩
  rintro _ Wq ⟨rfl, hq⟩
  rw [hq]
  clear hq s0
  gi_wp2
  have hA : Below (W0.alloc (.cells #[.func (.yield l) #[] #[]] 106)).heap.size (W0.alloc (.cells #[.func (.yield l) #[] #[]] 106)) ((W0.alloc (.cells #[.func (.yield l) #[] #[]] 106)).alloc (.cells #[.int .i64 (s : Int)] 3)) := ba (Below.refl _ _) _
  have hbl := bc (unhide HB1) hA
  have HSH2 := hide ((unhide HSH).bel hA)
  have HVL := hide (vb_new2 W0 3 [.int .i64 (s : Int)] (.cells #[.func (.yield l) #[] #[]] 106))
  have HJ1 := hide (unhide HJ (fun _ => False) (ex2 (fun _ => False) W0.heap.size (W0.heap.size + 1)) 0 _ _ (unhide HJ0) (Grw.of_bel hbl) (fun b hb => by rcases hb with h | h | h; exact h.elim; exact .inr (by omega); exact .inr (by omega)))
  have hT : ((W0.alloc (.cells #[.func (.yield l) #[] #[]] 106)).alloc (.cells #[.int .i64 (s : Int)] 3)).heap.size = W0.heap.size + 2 := by simp
  clear hA hbl HSH HB1 HJ0
  generalize (W0.alloc (.cells #[.func (.yield l) #[] #[]] 106)).alloc (.cells #[.int .i64 (s : Int)] 3) = WL at *
  refine range_x (R := fun b => b = W0.heap.size + 1) (N := lvn s) (gf := 93) (lb := #[.pointer (some ⟨W0.heap.size + 1, 0, none⟩)]) rfl (enters_of Try.func93 (by kernel_rfl) rfl) (fun b hb => by omega) (lvX s (W0.heap.size + 1) _ WL hs1 hs rfl (unhide HVL)) (Below.refl _ _) (fun _ => rfl)
    (L1 J W0.heap.size (W0.heap.size + 1) (W0.heap.size + 2) Bs Bf l s W H n c g po L) (fun O a X => ∃ k, k < (lsq (cnd W H s L) (cnC W H s)).length ∧ Jx (ex2 O W0.heap.size (W0.heap.size + 1)) k X ∧ (∀ b, O b → W0.heap.size + 2 ≤ b) ∧ W0.heap.size + 2 ≤ X.heap.size) ?hI ?hIx
    ⟨by rw [Nat.zero_mul]; exact unhide HJ1, unhide HSH2, unhide HVL, fun _ h => h.elim, by omega⟩
    (fun O a a' X => ∃ b4, vb X b4 3 [.int .i64 (lvl s a)] ∧ ¬ O b4 ∧ W0.heap.size + 2 ≤ b4 ∧ J (ex3 O W0.heap.size (W0.heap.size + 1) b4) (cnq (cnd W H s L) (a * (W * H))) X ∧ (∀ b, O b → W0.heap.size + 2 ≤ b) ∧ a' = ({ tmps := #[.func (.yield l) #[] #[], .pointer (some ⟨Bs, 0, none⟩), .pointer (some ⟨Bf, 0, none⟩), .pointer (some ⟨W0.heap.size, 0, none⟩), .pointer (some ⟨b4, 0, none⟩), undef, undef, undef, undef, .int .i64 (s : Int), .func (.func 93) #[] #[.pointer (some ⟨W0.heap.size + 1, 0, none⟩)], .int .i64 (lvl s a), undef, undef, undef, undef, undef, undef, undef, undef, undef, undef, undef, undef, undef, undef, undef, undef, undef, undef, undef, undef, undef, undef, undef, undef, undef, undef, undef, undef, undef, undef, undef, undef, undef, undef, undef, undef, undef, undef, undef, undef, undef, undef, undef], defers := [] } : Act))
    ?hAx ?assign ?body ?done ?stop
  case hI =>
    rintro O O' k A B ⟨hj, hsh, hvl, hfar, hbig⟩ hg hO
    have hbel : Below (W0.heap.size + 2) A B := hg.bel hbig hfar
    refine ⟨unhide HJ _ _ _ _ _ hj (hg.mono (fun b hb => .inl hb)) (fun b hb => ?_), hsh.grw hg hbig hfar (by omega) (by omega) (by omega) (by omega), hvl.below hbel (by omega), fun b hb => (hO b hb).elim (hfar b) (fun h => by omega), Nat.le_trans hbig hg.size⟩
    rcases hb with h | h
    · exact (hO b h).elim (fun h => .inl (.inl h)) .inr
    · exact .inl (.inr h)
  case hIx =>
    rintro O O' a A B ⟨k, hk, hj, hfar, hbig⟩ hg hO
    refine ⟨k, hk, unhide HJX _ _ _ _ _ hj (hg.mono (fun b hb => .inl hb)) (fun b hb => ?_), fun b hb => (hO b hb).elim (hfar b) (fun h => by omega), Nat.le_trans hbig hg.size⟩
    rcases hb with h | h
    · exact (hO b h).elim (fun h => .inl (.inl h)) .inr
    · exact .inl (.inr h)
  case hAx =>
    rintro O k a' A B ⟨b3, h1, h2, h3, h4, h5, h6⟩ hg
    exact ⟨b3, (hg.block _ h1.lt h2).trans h1, h2, h3, unhide HJ _ _ _ _ _ h4 (hg.mono (fun b hb => .inl (.inl hb))) (fun b hb => .inl hb), h5, h6⟩
  case assign =>
    intro l' O a X K ha hO hi hK
    have HK := hide hK
    have HI := hide hi
    clear hK hi
    unfold lvc
    gi_wp2
    have hA : Below X.heap.size X (X.alloc (.cells #[.int .i64 (lvl s a)] 3)) := ba (Below.refl _ _) _
    have h := unhide HI
    exact unhide HK _ _ (Kpx.of_bel hA) ⟨unhide HJ _ _ _ _ _ h.j (Grw.of_bel hA) (fun b hb => .inl hb), h.sh.bel hA, h.vl.bel hA, h.far, Nat.le_trans h.big hA.size⟩ ⟨X.heap.size, vb_new X 3 _ _ rfl, fun hh => by have := (hO _ hh).2; omega, h.big, unhide HJ _ _ _ _ _ h.j (Grw.of_bel hA) (fun b hb => hb.elim .inl (fun e => .inr (by omega))), h.far, rfl⟩
  case body =>
    rintro l1 O a a' X ⟨r₀, hr₀⟩ hOl ha hO hi ⟨b4, h4, hn4, hl4, hj4, _, rfl⟩
    have HI := hide hi
    have H4 := hide h4
    have HJ4 := hide hj4
    have HR0 := hide hr₀
    obtain ⟨z, hz⟩ : ∃ z, lvl s a = z := ⟨_, rfl⟩
    rw [hz] at H4 ⊢
    have HZ := hide hz
    have k0 := hi.sh.vf.cell (m := 0) rfl
    have k1 := hi.sh.vf.cell (m := 1) rfl
    have k2 := hi.sh.vf.cell (m := 2) rfl
    clear hi h4 hj4 hr₀ hz
    gi_wp2
    refine ⟨trivial, rfl, (CallsIn.inRound l1 (callsIn_wide.2 (unhide HTM _))).mono ?_⟩
    rintro _ Wq ⟨rfl, hq⟩
    rw [hq]
    clear hq k0 k1 k2
    gi_wp2
    have hA : Below X.heap.size X (X.alloc (.cells #[.int .i64 (W : Int), .int .i64 (H : Int), .slice (some ⟨g, po, none⟩) n c] 25)) := ba (Below.refl _ _) _
    have HSHa := hide ((unhide HI).sh.bel hA)
    have H4a := hide ((unhide H4).bel hA)
    have HV13 := hide (vb_new X 25 [.int .i64 (W : Int), .int .i64 (H : Int), .slice (some ⟨g, po, none⟩) n c] X.heap.size rfl)
    have HR1 := hide ((hA.block l1 (Array.getElem?_eq_some_iff.1 (unhide HR0)).1).trans (unhide HR0))
    have HKa := hide (Kpx.of_bel (R := fun q => q = W0.heap.size + 1) (O := O) hA)
    have HJa := hide (unhide HJ _ (exA (fun _ => False) O W0.heap.size (W0.heap.size + 1) b4 X.heap.size) _ _ _ (unhide HJ4) (Grw.of_bel hA) (fun q hq => by rcases hq with h | h | h | h | h | h; exact h.elim; exact .inl (.inl (.inl h)); exact .inl (.inl (.inr (.inl h))); exact .inl (.inl (.inr (.inr h))); exact .inl (.inr h); exact .inr (by omega)))
    have hT2 : (X.alloc (.cells #[.int .i64 (W : Int), .int .i64 (H : Int), .slice (some ⟨g, po, none⟩) n c] 25)).heap.size = X.heap.size + 1 := by simp
    have hb4lt := (unhide H4).lt
    have hXb := (unhide HI).big
    clear hA HJ4
    generalize X.alloc (.cells #[.int .i64 (W : Int), .int .i64 (H : Int), .slice (some ⟨g, po, none⟩) n c] 25) = Xa at *
    refine range_n (l₀ := l1) (r₀ := r₀) (unhide HR1) (R := fun q => q = X.heap.size) (N := W * H) (gf := 94) (lb := #[.pointer (some ⟨X.heap.size, 0, none⟩)]) rfl (enters_of Try.func94 (by kernel_rfl) rfl) (fun b hb => by omega) (tfoX W H n c g po X.heap.size _ Xa hW1 hW hH rfl (unhide HV13)) (Below.refl _ _) (fun _ => rfl)
      (L2 J X O W0.heap.size (W0.heap.size + 1) b4 X.heap.size (X.heap.size + 1) Bs Bf l s W H n c g po a z L) (fun O2 b Y => ∃ k, k < (lsq (cnd W H s L) (cnC W H s)).length ∧ Jx (exA O2 O W0.heap.size (W0.heap.size + 1) b4 X.heap.size) k Y ∧ (∀ q, O q → q < X.heap.size → Y.heap[q]? = X.heap[q]?) ∧ (∀ q, O2 q → X.heap.size + 1 ≤ q) ∧ X.heap.size + 1 ≤ Y.heap.size) ?hI2 ?hIx2
      ⟨unhide HJa, unhide HSHa, unhide H4a, unhide HV13, unhide HKa, fun _ h => h.elim, by omega⟩
      (fun O2 b a' Y => ∃ b5, vb Y b5 46 [.int .i64 ((tfx W b : Nat) : Int), .int .i64 ((b / W : Nat) : Int)] ∧ ¬ O2 b5 ∧ X.heap.size + 1 ≤ b5 ∧ J (exB O2 O W0.heap.size (W0.heap.size + 1) b4 X.heap.size b5) (cnq (cnd W H s L) (a * (W * H) + b)) Y ∧ a' = ({ tmps := #[.func (.yield l) #[] #[], .pointer (some ⟨Bs, 0, none⟩), .pointer (some ⟨Bf, 0, none⟩), .pointer (some ⟨W0.heap.size, 0, none⟩), .pointer (some ⟨b4, 0, none⟩), .pointer (some ⟨b5, 0, none⟩), undef, undef, undef, .int .i64 (s : Int), .func (.func 93) #[] #[.pointer (some ⟨W0.heap.size + 1, 0, none⟩)], .int .i64 z, .agg #[.int .i64 (W : Int), .int .i64 (H : Int), .slice (some ⟨g, po, none⟩) n c], .func (.func 94) #[] #[.pointer (some ⟨X.heap.size, 0, none⟩)], .agg #[.int .i64 ((tfx W b : Nat) : Int), .int .i64 ((b / W : Nat) : Int)], undef, undef, undef, undef, undef, undef, undef, undef, undef, undef, undef, undef, undef, undef, undef, undef, undef, undef, undef, undef, undef, undef, undef, undef, undef, undef, undef, undef, undef, undef, undef, undef, undef, undef, undef, undef, undef, undef, undef, undef], defers := [] } : Act))
      ?hAx2 ?assign2 ?body2 ?done2 ?stop2
    case hI2 =>
      rintro O2 O2' b A B ⟨hj, hsh, h4, h13, hkp, hfar, hbig⟩ hg hO2
      have hbel : Below (X.heap.size + 1) A B := hg.bel hbig hfar
      refine ⟨unhide HJ _ _ _ _ _ hj (hg.mono (fun b hb => .inl hb)) (fun q hq => ?_), hsh.grw hg hbig hfar (by omega) (by omega) (by omega) (by omega), h4.below hbel (by omega), h13.below hbel (by omega), ⟨hg.os.trans hkp.os, hg.tape.trans hkp.tape, hg.output.trans hkp.output, Nat.le_trans hkp.size hg.size, fun q ho hq => (hbel.block q (by omega)).trans (hkp.keep q ho hq)⟩, fun q hq => (hO2 q hq).elim (hfar q) (fun h => by omega), Nat.le_trans hbig hg.size⟩
      rcases hq with h | h
      · exact (hO2 q h).elim (fun h => .inl (.inl h)) .inr
      · exact .inl (.inr h)
    case hIx2 =>
      rintro O2 O2' b A B ⟨k, hk, hj, hkp, hfar, hbig⟩ hg hO2
      have hbel : Below (X.heap.size + 1) A B := hg.bel hbig hfar
      refine ⟨k, hk, unhide HJX _ _ _ _ _ hj (hg.mono (fun b hb => .inl hb)) (fun q hq => ?_), fun q ho hq => (hbel.block q (by omega)).trans (hkp q ho hq), fun q hq => (hO2 q hq).elim (hfar q) (fun h => by omega), Nat.le_trans hbig hg.size⟩
      rcases hq with h | h
      · exact (hO2 q h).elim (fun h => .inl (.inl h)) .inr
      · exact .inl (.inr h)
    case hAx2 =>
      rintro O2 b a' A B ⟨b5, h1, h2, h3, h4, h5⟩ hg
      exact ⟨b5, (hg.block _ h1.lt h2).trans h1, h2, h3, unhide HJ _ _ _ _ _ h4 (hg.mono (fun b hb => .inl (.inl hb))) (fun b hb => .inl hb), h5⟩
    case assign2 =>
      intro l' O2 b Y K hb hO2 hi2 hK
      have HK := hide hK
      have HI2 := hide hi2
      clear hK hi2
      unfold tfp
      gi_wp2
      have hA : Below Y.heap.size Y (Y.alloc (.cells #[.int .i64 ((tfx W b : Nat) : Int), .int .i64 ((b / W : Nat) : Int)] 46)) := ba (Below.refl _ _) _
      have h := unhide HI2
      exact unhide HK _ _ (Kpx.of_bel hA) ⟨unhide HJ _ _ _ _ _ h.j (Grw.of_bel hA) (fun b hb => .inl hb), h.sh.bel hA, h.v4.bel hA, h.v13.bel hA, h.kp.trans (Kpx.of_bel hA), h.far, Nat.le_trans h.big hA.size⟩ ⟨Y.heap.size, vb_new Y 46 _ _ rfl, fun hh => by have := (hO2 _ hh).2; omega, h.big, unhide HJ _ _ _ _ _ h.j (Grw.of_bel hA) (fun b hb => hb.elim .inl (fun e => .inr (by omega))), rfl⟩
    case body2 =>
      rintro l2 O2 b a' Y _ hOl2 hb hO2 hi2 ⟨b5, h5, hn5, hl5, hj5, rfl⟩
      have HI2 := hide hi2
      have H5 := hide h5
      have HJ5 := hide hj5
      have hWp : 0 < W := by omega
      have hcn := (cnd_1 (W := W) (H := H) (s := s) L ha hb).trans (by unfold cn1; rw [unhide HZ])
      have hcl : a * (W * H) + b < cnC W H s := by
        have h1 : (a + 1) * (W * H) ≤ lvn s * (W * H) := Nat.mul_le_mul_right _ ha
        rw [Nat.succ_mul] at h1
        unfold cnC
        omega
      obtain ⟨x, hx⟩ : ∃ x, tfx W b = x := ⟨_, rfl⟩
      obtain ⟨y, hy'⟩ : ∃ y, b / W = y := ⟨_, rfl⟩
      have hxW : x < W := by rw [← hx]; exact tfx_lt hWp
      have hyH : y < H := by rw [← hy']; exact Nat.div_lt_of_lt_mul hb
      rw [hx, hy'] at H5 hcn ⊢
      obtain ⟨κ, hκ⟩ : ∃ κ, a * (W * H) + b = κ := ⟨_, rfl⟩
      rw [hκ] at HJ5 hcn hcl
      have HOB : Hid (∀ Z : World, Y.heap.size ≤ Z.heap.size → ∀ q, exB O2 O W0.heap.size (W0.heap.size + 1) b4 X.heap.size b5 q → W0.heap.size ≤ q ∧ q < Z.heap.size) := hide (fun Z hZ q hq => by
        have h1 := (unhide HI2).big
        have h2 := (unhide H5).lt
        rcases hq with (h | h | h | h | h | h) | h
        · have := hO2 q h; omega
        · have := hO q h; omega
        · omega
        · omega
        · omega
        · omega
        · omega)
      have HVF := hide hi2.sh.vf
      have HVY := hide hi2.sh.vy
      have HV4 := hide hi2.v4
      have HTT := hide (fun X' (hX : Below Y.heap.size Y X') => unhide HTP x y X' ((unhide HI2).sh.fd.bel hX) hxW hyH)
      have HB13 := hide ((unhide HI2).v13)
      have hbig2 := hi2.big
      clear hi2 h5 hj5
      gi_wp2
      by_cases hle : tp L (y * W + x) ≤ z
      · rw [if_pos hle] at hcn
        obtain ⟨hat, hnx, hkl⟩ := cnq_some hcl hcn
        have HPL := hide (plc_at hat)
        have HNX := hide hnx
        obtain ⟨k, hk⟩ : ∃ k, cnq (cnd W H s L) κ = k := ⟨_, rfl⟩
        rw [hk] at HPL HNX HJ5 hkl
        have HD := hide (fun X' (hX : Below Y.heap.size Y X') => unhide HY (exB O2 O W0.heap.size (W0.heap.size + 1) b4 X.heap.size b5) k X' hkl (unhide HOB X' hX.size) (unhide HJ _ _ _ _ _ (unhide HJ5) (Grw.of_bel hX) (fun q hq => .inl hq)))
        rw [unhide HPL] at HD
        clear hat hnx hcn hcl
        refine wpIn_mono (st5a (t := tp L (y * W + x)) (Pst := fun r W' => (r = true ∧ J (exB O2 O W0.heap.size (W0.heap.size + 1) b4 X.heap.size b5) (k + 1) W' ∧ Kpx R (exB O2 O W0.heap.size (W0.heap.size + 1) b4 X.heap.size b5) Y W') ∨ (r = false ∧ Jx (exB O2 O W0.heap.size (W0.heap.size + 1) b4 X.heap.size b5) k W' ∧ ∀ q, exB O2 O W0.heap.size (W0.heap.size + 1) b4 X.heap.size b5 q → q < Y.heap.size → W'.heap[q]? = Y.heap[q]?)) HVF HV4 H5 HTT hle HVY (hide fun X' hX => ?hd) ?hq) (Only.to (fun _ _ h => h))
        case hd =>
          obtain ⟨fn, tmps, assign, body, h1, hR⟩ := unhide HD X' hX
          refine ⟨fn, tmps, assign, body, h1, hR.mono ?_⟩
          rintro _ W' (⟨rfl, h2, h3⟩ | ⟨rfl, h2, h3⟩)
          · exact ⟨true, rfl, .inl ⟨rfl, h2, (Kpx.of_bel hX).trans h3⟩⟩
          · exact ⟨false, rfl, .inr ⟨rfl, h2, fun q hq hl => (h3 q hq (Nat.lt_of_lt_of_le hl hX.size)).trans (hX.block q hl)⟩⟩
        case hq =>
          rintro _ W' (⟨rfl, hJ', hk'⟩ | ⟨rfl, hx', hkx⟩)
          · have HJ' := hide hJ'
            have HK' := hide hk'
            clear hJ' hk' HD
            gi_wp2
            have e1 : cnq (cnd W H s L) (a * (W * H) + (b + 1)) = k + 1 := by rw [← Nat.add_assoc, hκ]; exact unhide HNX
            have h2 := unhide HI2
            have h3 := unhide HK'
            refine ⟨h3.sub (fun q hq => .inr (.inl (hq.elim (fun e => .inr (.inr (.inr (.inr (.inr e))))) .inl))), ⟨?_, h2.sh.kp h3 (.inl (.inr (.inr (.inl rfl)))) hRs hRf hRg, h3.vb h2.v4 (.inr (.inl (.inr (.inr (.inr (.inr (.inl rfl))))))), h3.vb h2.v13 (.inr (.inl (.inr (.inr (.inr (.inr (.inr rfl))))))), h2.kp.trans (h3.sub (fun q hq => .inr (.inl (.inr (hq.elim (fun e => .inr (.inr (.inl e))) .inl))))), h2.far, Nat.le_trans h2.big h3.size⟩⟩
            rw [e1]
            exact unhide HJ _ _ _ _ _ (unhide HJ') ⟨rfl, rfl, rfl, Nat.le_refl _, fun _ _ _ => rfl⟩ (fun q hq => .inl (.inl hq))
          · have HX' := hide hx'
            have HKX := hide hkx
            clear hx' hkx HD
            gi_wp2
            have h2 := unhide HI2
            refine ⟨fun q hq hl => unhide HKX q (.inl (.inl hq)) hl, k, hkl, unhide HJX _ _ _ _ _ (unhide HX') ⟨rfl, rfl, rfl, Nat.le_refl _, fun _ _ _ => rfl⟩ (fun q hq => .inl (.inl hq)), fun q hq hl => (unhide HKX q (.inl (.inr (.inl hq))) (by omega)).trans (h2.kp.keep q (.inr hq) hl), h2.far, ?_⟩
            have h9 := unhide HKX X.heap.size (.inl (.inr (.inr (.inr (.inr (.inr rfl)))))) (unhide HB13).lt
            have h8 := (Array.getElem?_eq_some_iff.1 (h9.trans (unhide HB13))).1
            omega
      · rw [if_neg hle] at hcn
        have hnx := cnq_none hcn
        have HNX := hide hnx
        clear hnx hcn hcl
        refine wpIn_mono (st5b (l := l) (Pst := fun _ _ => True) (t := tp L (y * W + x)) HVF HV4 H5 HTT hle ?hq) (Only.to (fun _ _ h => h))
        intro W' hW'
        have HB' := hide hW'
        clear hW'
        gi_wp2
        have h2 := unhide HI2
        have h3 := unhide HB'
        have e1 : cnq (cnd W H s L) (a * (W * H) + (b + 1)) = cnq (cnd W H s L) κ := by rw [← Nat.add_assoc, hκ]; exact unhide HNX
        refine ⟨Kpx.of_bel h3, ⟨?_, h2.sh.bel h3, h2.v4.bel h3, h2.v13.bel h3, h2.kp.trans (Kpx.of_bel h3), h2.far, Nat.le_trans h2.big h3.size⟩⟩
        rw [e1]
        exact unhide HJ _ _ _ _ _ (unhide HJ5) (Grw.of_bel h3) (fun q hq => .inl (.inl hq))
    case done2 =>
      intro O2 Y hi2
      have HI2 := hide hi2
      clear hi2
      gi_wp2
      have h2 := unhide HI2
      have h1 := unhide HI
      refine ⟨h2.kp, ?_, h2.sh, h2.kp.vb h1.vl (.inl rfl), h1.far, Nat.le_trans h1.big h2.kp.size⟩
      rw [Nat.succ_mul]
      exact unhide HJ _ _ _ _ _ h2.j ⟨rfl, rfl, rfl, Nat.le_refl _, fun _ _ _ => rfl⟩ (fun q hq => .inl (.inr (hq.elim .inl (fun h => .inr (h.elim .inl (fun e => .inr (.inl e)))))))
    case stop2 =>
      rintro O2 b Y hb ⟨k, hk, hj, hkp, hfar, hbig⟩
      have HJ2 := hide hj
      have HKP := hide hkp
      clear hj hkp
      gi_wp2
      exact ⟨unhide HKP, k, hk, unhide HJX _ _ _ _ _ (unhide HJ2) ⟨rfl, rfl, rfl, Nat.le_refl _, fun _ _ _ => rfl⟩ (fun q hq => .inl (.inr (hq.elim .inl (fun h => .inr (h.elim .inl (fun e => .inr (.inl e))))))), (unhide HI).far, by omega⟩
  case done =>
    rintro O1_ D X hD hi_ hDd hOD_
    obtain ⟨O1, hO1, hi, hOD⟩ : ∃ O2 : Nat → Prop, (∀ q, O2 q → q < X.heap.size) ∧ L1 J W0.heap.size (W0.heap.size + 1) (W0.heap.size + 2) Bs Bf l s W H n c g po L O2 (lvn s) X ∧ O2 D := ⟨fun q => O1_ q ∧ q < X.heap.size, fun q h => h.2, ⟨unhide HJ _ _ _ _ _ hi_.j ⟨rfl, rfl, rfl, Nat.le_refl _, fun _ _ _ => rfl⟩ (fun q hq => .inl (hq.elim (fun h => .inl h.1) .inr)), hi_.sh, hi_.vl, fun q h => hi_.far q h.1, hi_.big⟩, hOD_, (Array.getElem?_eq_some_iff.1 hDd).1⟩
    clear hi_ hOD_
    have HI := hide hi
    clear hi
    have s0 := (unhide HI).sh.vs.cell (m := 0) rfl
    have HDd := hide hDd
    clear hDd
    gi_wp2
    refine ⟨trivial, rfl, (callsIn_wide.2 (unhide HLM _)).mono ?_⟩
    rintro _ Wq ⟨rfl, hq⟩
    rw [hq]
    clear hq s0
    gi_wp2
    have hA : Below X.heap.size X (X.alloc (.cells #[.int .i64 (s : Int)] 3)) := ba (Below.refl _ _) _
    refine ⟨trivial, rfl, (callsIn_wide.2 (clL s X.heap.size _ hs1 hs (vb_new X 3 _ _ rfl))).mono ?_⟩
    rintro _ Y ⟨bq, cap, rfl, hbq, hfq, hbY⟩
    have hXY := bc hA hbY
    have HFQ := hide hfq
    have HXY := hide hXY
    have HSHY := hide ((unhide HI).sh.bel hXY)
    have hA1 : Below Y.heap.size Y (Y.alloc (.cells #[.slice (some ⟨bq, 0, none⟩) (lvn s) cap] 23)) := ba (Below.refl _ _) _
    have HSHZ := hide ((unhide HSHY).bel hA1)
    have k0 := (unhide HSHZ).vf.cell (m := 0) rfl
    have k1 := (unhide HSHZ).vf.cell (m := 1) rfl
    have k2 := (unhide HSHZ).vf.cell (m := 2) rfl
    have HA1 := hide hA1
    clear hbY hA hfq hXY hA1
    gi_wp2
    refine ⟨trivial, rfl, (callsIn_wide.2 (unhide HRM _)).mono ?_⟩
    rintro _ Wq ⟨rfl, hq⟩
    rw [hq]
    clear hq k0 k1 k2
    gi_wp2
    have hA2 : Below (Y.alloc (.cells #[.slice (some ⟨bq, 0, none⟩) (lvn s) cap] 23)).heap.size (Y.alloc (.cells #[.slice (some ⟨bq, 0, none⟩) (lvn s) cap] 23)) ((Y.alloc (.cells #[.slice (some ⟨bq, 0, none⟩) (lvn s) cap] 23)).alloc (.cells #[.int .i64 (W : Int), .int .i64 (H : Int), .slice (some ⟨g, po, none⟩) n c] 25)) := ba (Below.refl _ _) _
    have hYZ := bc (unhide HA1) hA2
    have hXZ := bc (unhide HXY) hYZ
    have HSH3 := hide ((unhide HSHZ).bel hA2)
    have HFQ3 := hide ((unhide HFQ).bel hYZ)
    have HV6 := hide ((vb_new Y 23 [.slice (some ⟨bq, 0, none⟩) (lvn s) cap] Y.heap.size rfl).bel hA2)
    have HVR := hide (vb_new2 Y 25 [.int .i64 (W : Int), .int .i64 (H : Int), .slice (some ⟨g, po, none⟩) n c] (.cells #[.slice (some ⟨bq, 0, none⟩) (lvn s) cap] 23))
    have hDl := (Array.getElem?_eq_some_iff.1 (unhide HDd)).1
    have HDM := hide ((hXZ.block D hDl).trans (unhide HDd))
    have hXYs := (unhide HXY).size
    have hbql := (unhide HFQ).lt
    have hXb := (unhide HI).big
    have hbX : X.heap.size + 1 ≤ bq := by simpa using hbq
    have HJ3 := hide (unhide HJ _ (exC (fun _ => False) O1 W0.heap.size (W0.heap.size + 1) Y.heap.size bq (Y.heap.size + 1)) _ _ _ (unhide HI).j (Grw.of_bel hXZ) (fun q hq => by rcases hq with h | h | h | h | h | h | h; exact h.elim; exact .inl (.inl h); exact .inl (.inr (.inl h)); exact .inl (.inr (.inr h)); exact .inr (by omega); exact .inr (by omega); exact .inr (by omega)))
    have hT3 : ((Y.alloc (.cells #[.slice (some ⟨bq, 0, none⟩) (lvn s) cap] 23)).alloc (.cells #[.int .i64 (W : Int), .int .i64 (H : Int), .slice (some ⟨g, po, none⟩) n c] 25)).heap.size = Y.heap.size + 2 := by simp
    clear hA2 hYZ hXZ HSHZ HA1 HDd
    generalize (Y.alloc (.cells #[.slice (some ⟨bq, 0, none⟩) (lvn s) cap] 23)).alloc (.cells #[.int .i64 (W : Int), .int .i64 (H : Int), .slice (some ⟨g, po, none⟩) n c] 25) = WZ at *
    refine range_x (R := fun q => q = Y.heap.size + 1) (N := W * H) (gf := 86) (lb := #[.pointer (some ⟨Y.heap.size + 1, 0, none⟩)]) rfl (enters_of Try.func86 (by kernel_rfl) rfl) (fun b hb => by omega) (risX W H n c g po (Y.heap.size + 1) _ WZ hW1 hW hH rfl (unhide HVR)) (Below.refl _ _) (fun _ => rfl)
      (L3 J O1 W0.heap.size (W0.heap.size + 1) Y.heap.size bq (Y.heap.size + 1) (Y.heap.size + 2) D Bs Bf l s W H n c g po cap L) (fun O3 b Z => ∃ k, k < (lsq (cnd W H s L) (cnC W H s)).length ∧ Jx (exC O3 O1 W0.heap.size (W0.heap.size + 1) Y.heap.size bq (Y.heap.size + 1)) k Z ∧ Z.heap[D]? = some (.deferred (some [])) ∧ (∀ q, O3 q → Y.heap.size + 2 ≤ q) ∧ Y.heap.size + 2 ≤ Z.heap.size) ?hI3 ?hIx3
      ⟨unhide HJ3, unhide HSH3, unhide HV6, unhide HFQ3, unhide HVR, unhide HDM, fun _ h => h.elim, by omega⟩
      (fun O3 b a' Z => ∃ b7, vb Z b7 46 [.int .i64 ((b % W : Nat) : Int), .int .i64 ((b / W : Nat) : Int)] ∧ ¬ O3 b7 ∧ Y.heap.size + 2 ≤ b7 ∧ J (exD O3 O1 W0.heap.size (W0.heap.size + 1) Y.heap.size bq (Y.heap.size + 1) b7) (cnq (cnd W H s L) (lvn s * (W * H) + b)) Z ∧ a' = ({ tmps := #[.func (.yield l) #[] #[], .pointer (some ⟨Bs, 0, none⟩), .pointer (some ⟨Bf, 0, none⟩), .pointer (some ⟨W0.heap.size, 0, none⟩), undef, undef, .pointer (some ⟨Y.heap.size, 0, none⟩), .pointer (some ⟨b7, 0, none⟩), undef, .int .i64 (s : Int), .func (.func 93) #[] #[.pointer (some ⟨W0.heap.size + 1, 0, none⟩)], undef, undef, undef, undef, undef, undef, undef, undef, undef, undef, undef, undef, undef, undef, undef, undef, undef, undef, undef, undef, .int .i64 (s : Int), .func (.func 93) #[] #[.pointer (some ⟨X.heap.size, 0, none⟩)], .slice (some ⟨bq, 0, none⟩) (lvn s) cap, .agg #[.int .i64 (W : Int), .int .i64 (H : Int), .slice (some ⟨g, po, none⟩) n c], .func (.func 86) #[] #[.pointer (some ⟨Y.heap.size + 1, 0, none⟩)], .agg #[.int .i64 ((b % W : Nat) : Int), .int .i64 ((b / W : Nat) : Int)], undef, undef, undef, undef, undef, undef, undef, undef, undef, undef, undef, undef, undef, undef, undef, undef, undef, undef], defers := [] } : Act))
      ?hAx3 ?assign3 ?body3 ?done3 ?stop3
    case hI3 =>
      rintro O3 O3' b A B ⟨hj, hsh, h6, hfq, hvr, hdm, hfar, hbig⟩ hg hO3
      have hbel : Below (Y.heap.size + 2) A B := hg.bel hbig hfar
      refine ⟨unhide HJ _ _ _ _ _ hj (hg.mono (fun b hb => .inl hb)) (fun q hq => ?_), hsh.grw hg hbig hfar (by omega) (by omega) (by omega) (by omega), h6.below hbel (by omega), hfq.blk (hbel.block bq (by omega)), hvr.below hbel (by omega), (hbel.block D (by omega)).trans hdm, fun q hq => (hO3 q hq).elim (hfar q) (fun h => by omega), Nat.le_trans hbig hg.size⟩
      rcases hq with h | h
      · exact (hO3 q h).elim (fun h => .inl (.inl h)) .inr
      · exact .inl (.inr h)
    case hIx3 =>
      rintro O3 O3' b A B ⟨k, hk, hj, hdm, hfar, hbig⟩ hg hO3
      have hbel : Below (Y.heap.size + 2) A B := hg.bel hbig hfar
      refine ⟨k, hk, unhide HJX _ _ _ _ _ hj (hg.mono (fun b hb => .inl hb)) (fun q hq => ?_), (hbel.block D (by omega)).trans hdm, fun q hq => (hO3 q hq).elim (hfar q) (fun h => by omega), Nat.le_trans hbig hg.size⟩
      rcases hq with h | h
      · exact (hO3 q h).elim (fun h => .inl (.inl h)) .inr
      · exact .inl (.inr h)
    case hAx3 =>
      rintro O3 b a' A B ⟨b7, h1, h2, h3, h4, h5⟩ hg
      exact ⟨b7, (hg.block _ h1.lt h2).trans h1, h2, h3, unhide HJ _ _ _ _ _ h4 (hg.mono (fun b hb => .inl (.inl hb))) (fun b hb => .inl hb), h5⟩
    case assign3 =>
      intro l' O3 b Z K hb hO3 hi3 hK
      have HK := hide hK
      have HI3 := hide hi3
      clear hK hi3
      unfold ptk
      gi_wp2
      have hA : Below Z.heap.size Z (Z.alloc (.cells #[.int .i64 ((b % W : Nat) : Int), .int .i64 ((b / W : Nat) : Int)] 46)) := ba (Below.refl _ _) _
      have h := unhide HI3
      exact unhide HK _ _ (Kpx.of_bel hA) ⟨unhide HJ _ _ _ _ _ h.j (Grw.of_bel hA) (fun b hb => .inl hb), h.sh.bel hA, h.v6.bel hA, h.fq.bel hA, h.vr.bel hA, (hA.block D (Array.getElem?_eq_some_iff.1 h.dm).1).trans h.dm, h.far, Nat.le_trans h.big hA.size⟩ ⟨Z.heap.size, vb_new Z 46 _ _ rfl, fun hh => by have := (hO3 _ hh).2; omega, h.big, unhide HJ _ _ _ _ _ h.j (Grw.of_bel hA) (fun b hb => hb.elim .inl (fun e => .inr (by omega))), rfl⟩
    case body3 =>
      rintro l3 O3 b a' Z _ hOl3 hb hO3 hi3 ⟨b7, h7, hn7, hl7, hj7, rfl⟩
      have HI3 := hide hi3
      have H7 := hide h7
      have HJ7 := hide hj7
      have hWp : 0 < W := by omega
      have hcn := (cnd_2 (W := W) (H := H) (s := s) L b)
      have hcl : lvn s * (W * H) + b < cnC W H s := by unfold cnC; omega
      have hxy : b / W * W + b % W = b := Nat.div_add_mod' b W
      unfold cn2 at hcn
      obtain ⟨x, hx⟩ : ∃ x, b % W = x := ⟨_, rfl⟩
      obtain ⟨y, hy'⟩ : ∃ y, b / W = y := ⟨_, rfl⟩
      have hxW : x < W := by rw [← hx]; exact Nat.mod_lt _ hWp
      have hyH : y < H := by rw [← hy']; exact Nat.div_lt_of_lt_mul hb
      rw [hx, hy'] at hxy
      rw [hx, hy'] at H7 hcn ⊢
      obtain ⟨κ, hκ⟩ : ∃ κ, lvn s * (W * H) + b = κ := ⟨_, rfl⟩
      rw [hκ] at HJ7 hcn hcl
      have HOB : Hid (∀ V : World, Z.heap.size ≤ V.heap.size → ∀ q, exD O3 O1 W0.heap.size (W0.heap.size + 1) Y.heap.size bq (Y.heap.size + 1) b7 q → W0.heap.size ≤ q ∧ q < V.heap.size) := hide (fun V hV q hq => by
        have h1 := (unhide HI3).big
        have h2 := (unhide H7).lt
        have h3 := (unhide HI).far
        rcases hq with (h | h | h | h | h | h | h) | h
        · have := hO3 q h; omega
        · have := h3 q h; have := hO1 q h; omega
        · omega
        · omega
        · omega
        · omega
        · omega
        · omega)
      have HTT := hide (fun X' (hX : Below Z.heap.size Z X') => unhide HTP x y X' ((unhide HI3).sh.fd.bel hX) hxW hyH)
      rw [hxy] at HTT
      obtain ⟨t, ht⟩ : ∃ t, tp L b = t := ⟨_, rfl⟩
      rw [ht] at HTT hcn
      have HCT := hide (fun X' (hX : Below Z.heap.size Z X') => ctI (some ⟨bq, 0, none⟩) bq 0 (lvn s) cap (lvls s) t X' (lvls_len s) (by have := lvn_le hs1; omega) ((unhide HI3).fq.bel hX).its)
      rw [lvls_any] at HCT
      have k0 := hi3.sh.vf.cell (m := 0) rfl
      have k1 := hi3.sh.vf.cell (m := 1) rfl
      have k2 := hi3.sh.vf.cell (m := 2) rfl
      have p0 := h7.cell (m := 0) rfl
      have p1 := h7.cell (m := 1) rfl
      rw [hx] at p0
      rw [hy'] at p1
      clear hi3 h7 hj7 hx hy' ht
      gi_wp2
      refine ⟨trivial, rfl, (CallsIn.inRound l3 (callsIn_wide.2 (unhide HTT _ (Below.refl _ _)))).mono ?_⟩
      rintro _ Zq ⟨rfl, hbz⟩
      have c6 := ((unhide HI3).v6.bel hbz).cell (m := 0) rfl
      have cy := ((unhide HI3).sh.vy.bel hbz).cell (m := 0) rfl
      have q0 := ((unhide H7).bel hbz).cell (m := 0) rfl
      have q1 := ((unhide H7).bel hbz).cell (m := 1) rfl
      have HBZ := hide hbz
      have hfz := unhide HCT _ hbz
      clear k0 k1 k2 p0 p1 hbz
      cases hil : islv s t with
      | true =>
        rw [hil] at hfz hcn
        have HFZ := hide hfz
        rw [if_pos rfl] at hcn
        have HNX := hide (cnq_none hcn)
        clear hfz hcn hcl
        gi_wp2
        refine ⟨trivial, rfl, (CallsIn.inRound l3 (callsIn_wide.2 (unhide HFZ))).mono ?_⟩
        rintro _ Zr ⟨rfl, rfl⟩
        gi_wp2
        refine ⟨(fun f hf => by cases hf), ?_⟩
        gi_wp2
        have h2 := unhide HI3
        have h3 := unhide HBZ
        have e1 : cnq (cnd W H s L) (lvn s * (W * H) + (b + 1)) = cnq (cnd W H s L) κ := by rw [← Nat.add_assoc, hκ]; exact unhide HNX
        refine ⟨Kpx.of_bel h3, ⟨?_, h2.sh.bel h3, h2.v6.bel h3, h2.fq.bel h3, h2.vr.bel h3, (h3.block D (Array.getElem?_eq_some_iff.1 h2.dm).1).trans h2.dm, h2.far, Nat.le_trans h2.big h3.size⟩⟩
        rw [e1]
        exact unhide HJ _ _ _ _ _ (unhide HJ7) (Grw.of_bel h3) (fun q hq => .inl (.inl hq))
      | false =>
        rw [hil] at hfz hcn
        have HFZ := hide hfz
        rw [if_neg (by simp)] at hcn
        obtain ⟨hat, hnx, hkl⟩ := cnq_some hcl hcn
        have HPL := hide (plc_at hat)
        have HNX := hide hnx
        obtain ⟨k, hk⟩ : ∃ k, cnq (cnd W H s L) κ = k := ⟨_, rfl⟩
        rw [hk] at HPL HNX HJ7 hkl
        obtain ⟨fn, tmps, assign, body, hy, hR⟩ := unhide HY (exD O3 O1 W0.heap.size (W0.heap.size + 1) Y.heap.size bq (Y.heap.size + 1) b7) k Zq hkl (unhide HOB Zq (unhide HBZ).size) (unhide HJ _ _ _ _ _ (unhide HJ7) (Grw.of_bel (unhide HBZ)) (fun q hq => .inl hq))
        rw [unhide HPL] at hy
        unfold plV at hy
        clear hfz hcn hcl hat hnx
        gi_wp2
        refine ⟨trivial, rfl, (CallsIn.inRound l3 (callsIn_wide.2 (unhide HFZ))).mono ?_⟩
        rintro _ Zr ⟨rfl, rfl⟩
        gi_wp2
        refine ⟨rfl, hR.mono ?_⟩
        rintro _ W' (⟨rfl, hJ', hk'⟩ | ⟨rfl, hx', hkx⟩)
        · have HJ' := hide hJ'
          have HK' := hide ((Kpx.of_bel (R := R) (O := exD O3 O1 W0.heap.size (W0.heap.size + 1) Y.heap.size bq (Y.heap.size + 1) b7) (unhide HBZ)).trans hk')
          clear hJ' hk' hR hy
          gi_wp2
          have e1 : cnq (cnd W H s L) (lvn s * (W * H) + (b + 1)) = k + 1 := by rw [← Nat.add_assoc, hκ]; exact unhide HNX
          have h2 := unhide HI3
          have h3 := unhide HK'
          refine ⟨h3.sub (fun q hq => .inr (.inl (hq.elim (fun e => .inr (.inr (.inr (.inr (.inr (.inr e)))))) .inl))), ⟨?_, h2.sh.kp h3 (.inl (.inr (.inr (.inl rfl)))) hRs hRf hRg, h3.vb h2.v6 (.inr (.inl (.inr (.inr (.inr (.inr (.inl rfl))))))), h2.fq.blk (h3.keep bq (.inr (.inl (.inr (.inr (.inr (.inr (.inr (.inl rfl)))))))) h2.fq.lt), h3.vb h2.vr (.inr (.inl (.inr (.inr (.inr (.inr (.inr (.inr rfl)))))))), (h3.keep D (.inr (.inl (.inr (.inl hOD)))) (Array.getElem?_eq_some_iff.1 h2.dm).1).trans h2.dm, h2.far, Nat.le_trans h2.big h3.size⟩⟩
          rw [e1]
          exact unhide HJ _ _ _ _ _ (unhide HJ') ⟨rfl, rfl, rfl, Nat.le_refl _, fun _ _ _ => rfl⟩ (fun q hq => .inl (.inl hq))
        · have HX' := hide hx'
          have HKX := hide (fun q hq (hl : q < Z.heap.size) => (hkx q hq (Nat.lt_of_lt_of_le hl (unhide HBZ).size)).trans ((unhide HBZ).block q hl))
          clear hx' hkx hR hy
          gi_wp2
          have h2 := unhide HI3
          refine ⟨fun q hq hl => unhide HKX q (.inl (.inl hq)) hl, k, hkl, unhide HJX _ _ _ _ _ (unhide HX') ⟨rfl, rfl, rfl, Nat.le_refl _, fun _ _ _ => rfl⟩ (fun q hq => .inl (.inl hq)), (unhide HKX D (.inl (.inr (.inl hOD))) (Array.getElem?_eq_some_iff.1 h2.dm).1).trans h2.dm, h2.far, ?_⟩
          have h9 := unhide HKX (Y.heap.size + 1) (.inl (.inr (.inr (.inr (.inr (.inr (.inr rfl))))))) h2.vr.lt
          have h8 := (Array.getElem?_eq_some_iff.1 (h9.trans h2.vr)).1
          omega
    case done3 =>
      intro O3 D3 Z hD3 hi3 hK3 hOD3
      have HI3 := hide hi3
      have HK3 := hide hK3
      clear hi3 hK3
      gi_wp2
      refine ⟨by simp, .inl ⟨_, _, rfl, run_takeDeferred (unhide HK3), ?_⟩⟩
      have HK4 := hide ((World.putObj_heap_other (w := Z) (o := .deferred none) (show D ≠ D3 by omega)).trans (unhide HI3).dm)
      refine ⟨by simp, .inl ⟨_, _, rfl, run_takeDeferred (unhide HK4), ?_⟩⟩
      exact ⟨_, results_none rfl _ _ _, ⟨_, rfl⟩, exC O3 O1 W0.heap.size (W0.heap.size + 1) Y.heap.size bq (Y.heap.size + 1), .inl (unhide HJ _ _ _ _ _ (unhide HJ _ _ _ _ _ (unhide HI3).j (Grw.put (.inl hOD3) _) (fun b hb => .inl hb)) (Grw.put (.inr (.inl hOD)) _) (fun b hb => .inl hb))⟩
    case stop3 =>
      rintro O3 D3 b Z hD3 hb ⟨k, hk, hj, hdm, hfar, hbig⟩ hK3 hOD3
      have HJ3 := hide hj
      have HDM3 := hide hdm
      have HK3 := hide hK3
      clear hj hdm hK3
      gi_wp2
      refine ⟨by simp, .inl ⟨_, _, rfl, run_takeDeferred (unhide HK3), ?_⟩⟩
      have HK4 := hide ((World.putObj_heap_other (w := Z) (o := .deferred none) (show D ≠ D3 by omega)).trans (unhide HDM3))
      refine ⟨by simp, .inl ⟨_, _, rfl, run_takeDeferred (unhide HK4), ?_⟩⟩
      exact ⟨_, results_none rfl _ _ _, ⟨_, rfl⟩, exC O3 O1 W0.heap.size (W0.heap.size + 1) Y.heap.size bq (Y.heap.size + 1), .inr ⟨k, hk, unhide HJX _ _ _ _ _ (unhide HJX _ _ _ _ _ (unhide HJ3) (Grw.put (.inl hOD3) _) (fun b hb => .inl hb)) (Grw.put (.inr (.inl hOD)) _) (fun b hb => .inl hb)⟩⟩
  case stop =>
    rintro O D a X hD ha ⟨k, hk, hj, hfar, hbig⟩ hK hOD
    have HJ3 := hide hj
    have HK := hide hK
    clear hj hK
    gi_wp2
    refine ⟨by simp, .inl ⟨_, _, rfl, run_takeDeferred (unhide HK), ?_⟩⟩
    exact ⟨_, results_none rfl _ _ _, ⟨_, rfl⟩, _, .inr ⟨k, hk, unhide HJX _ _ _ _ _ (unhide HJ3) (Grw.put (.inl hOD) _) (fun b hb => .inl hb)⟩⟩
end Go.Proofs.Ytjhldjojkaphkaa
