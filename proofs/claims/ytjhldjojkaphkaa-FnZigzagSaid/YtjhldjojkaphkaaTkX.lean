/-
  The places that take something, as an iterator.
-/
import Derived.Test.YtjhldjojkaphkaaTkM
import Derived.Test.YtjhldjojkaphkaaStd
namespace Go.Proofs.Ytjhldjojkaphkaa
open Go.ChangeShapes Go.WideShapes Go.ChangeAt Go.RowKit Go.Shelf
attribute [local go_sem] Oper.semAt_some
set_option linter.unusedVariables false
set_option linter.unusedSimpArgs false

theorem Pcs.kept {w w' : World} {B : Nat} {v : Value} {g po : Nat} {ps : List (Nat × Nat)} (h : Pcs w B v g po ps) (hb : ∀ b, v.ownBlock = some b → w'.heap[b]? = w.heap[b]?) : Pcs w' B v g po ps := by
  refine ⟨h.1, ?_⟩
  rcases h.2 with h1 | ⟨g, cap, cur, hv, hB, hh, r⟩
  · exact .inl h1
  · exact .inr ⟨g, cap, cur, hv, hB, (hb g (by rw [hv]; rfl)).trans hh, r⟩
theorem Pcs.bel {w w' : World} {B : Nat} {v : Value} {g po : Nat} {ps : List (Nat × Nat)} (h : Pcs w B v g po ps) (hv : v ≠ .slice none 0 0) (hb : Below w.heap.size w w') : Pcs w' B v g po ps :=
  h.kept (fun b hbb => by
    obtain ⟨q, cap, rfl, _, h2, _⟩ := h.form hv
    simp only [Value.ownBlock, Option.some.injEq] at hbb
    subst hbb
    exact hb.block _ h2)
set_option maxRecDepth 100000 in
set_option maxHeartbeats 8000000 in
theorem tkX (W H n c g po Bk Bp Br r gf : Nat) (lbp : Array Value) (T : List Int) (ps : List (Nat × Nat × Int)) (Rp R : Nat → Prop) (w : World) (hW1 : 1 ≤ W) (hW : W ≤ 24) (hH1 : 1 ≤ H) (hH : H ≤ 24) (hr : r ≤ 3) (hn : n = W * H)
    (hRR : ∀ b, Rp b → R b) (hRb : R Br) (hRp : ∀ b, Rp b → b < w.heap.size) (hvk : vb w Bk 25 [.int .i64 (W : Int), .int .i64 (H : Int), .slice (some ⟨g, po, none⟩) n c]) (hvp : vb w Bp 69 [.func (.func gf) #[] lbp]) (hvr : vb w Br 3 [.int .i64 (r : Int)])
    (hF : Fd w g po n c T) (hO : MOk n ⟨T, 0, 0, 0⟩) (hps : ∀ p ∈ ps, p.1 < W ∧ p.2.1 < H ∧ 0 ≤ p.2.2 ∧ p.2.2 ≤ 24) (eg : ∀ args w, (callFunc gf args).run Try.prog w = .ok (.enter gf args) w) (hseq : SeqX Try.prog gf lbp (plc ps) ps.length Rp w) :
    SeqX Try.prog 72 #[.pointer (some ⟨Bk, 0, none⟩), .pointer (some ⟨Bp, 0, none⟩), .pointer (some ⟨Br, 0, none⟩)] (plc (lsq (tkd W H r ⟨T, 0, 0, 0⟩ ps) ps.length)) (lsq (tkd W H r ⟨T, 0, 0, 0⟩ ps) ps.length).length R w := by
  intro l J Jx W0 hW0 hJ hJx hY h0
  have hnb : n ≤ 576 := by rw [hn]; exact Nat.mul_le_mul hW hH
  have HY := hide hY
  have HJ := hide hJ
  have HJX := hide hJx
  have HJ0 := hide h0
  have hvk0 := hvk.bel hW0
  have hvp0 := hvp.bel hW0
  have hvr0 := hvr.bel hW0
  have hF0 := hF.bel hW0
  have HSQ := hide (hseq.later hW0)
  have hszW := hW0.size
  have lBr := hvr0.lt
  have HPS := hide hps
  have HO := hide (fun c hc => lfS_ok (r := r) (ps := ps) hn hr hO hH1 (fun p hp => (hps p hp).2.2.1) c hc)
  have HUN := hide (fun (x y q cap : Nat) X hx hy (hc : n ≤ cap) hm => unP_any W H r x y q 0 n cap X hW hH hr hx hy hn hc hm)
  have HPK := hide (fun (x y : Nat) (hx : x < W) (hy : y < H) => pieces_ok (W := W) (H := H) (r := r) (x := x) (y := y) hr hx hy)
  have hA : Below W0.heap.size W0 (W0.alloc (.cells #[.func (.yield l) #[] #[]] 106)) := ba (Below.refl _ _) _
  have HB1 := hide hA
  have HVY1 := hide (vb_new W0 106 [.func (.yield l) #[] #[]] W0.heap.size rfl)
  have HVP1 := hide (hvp0.bel hA)
  have HVR1 := hide (hvr0.bel hA)
  have HCP := hide (cpP_any (W : Int) (H : Int) g po n c T _ (hF0.bel hA) hnb)
  have k0 := (hvk0.bel hA).cell (m := 0) rfl
  have k1 := (hvk0.bel hA).cell (m := 1) rfl
  have k2 := (hvk0.bel hA).cell (m := 2) rfl
  unfold fldV at *
  clear hvk hvp hvr hF hW0 hJ hJx hY h0 hA hvk0 hvp0 hvr0 hF0 hps hseq hO
  have HN := hide hn
  clear hn
  refine callsIn_of_wp_marks Try.func72 rfl trivial ?_ rfl
  simp only [Try.ntmps72, List.size_toArray, List.length_cons, List.length_nil, Nat.reduceAdd, Nat.reduceSub, Array.replicate_succ, Array.replicate_zero, List.push_toArray, List.append_toArray, List.nil_append, List.cons_append]
  gi_wp2
  refine ⟨trivial, rfl, (callsIn_wide.2 (unhide HCP)).mono ?_⟩
  rintro _ Wq ⟨⟨q, cap, rfl, hrow⟩, hbq⟩
  have HBQ := hide hbq
  have HROW := hide hrow
  have hA2 : Below Wq.heap.size Wq (Wq.alloc (.cells #[.int .i64 0, .int .i64 0, .int .i64 (W : Int), .int .i64 (H : Int), .slice (some ⟨q, 0, none⟩) n cap, .int .i64 0, .int .i64 0, .int .i64 0] 34)) := ba (Below.refl _ _) _
  have cp := (((unhide HVP1).bel hbq).bel hA2).cell (m := 0) rfl
  have HA2 := hide hA2
  have hbW := bc (bc (unhide HB1) hbq) hA2
  have HBW := hide hbW
  have HVY := hide (((unhide HVY1).bel hbq).bel hA2)
  have HVR := hide (((unhide HVR1).bel hbq).bel hA2)
  have HPN : Hid (Pn (Wq.alloc (.cells #[.int .i64 0, .int .i64 0, .int .i64 (W : Int), .int .i64 (H : Int), .slice (some ⟨q, 0, none⟩) n cap, .int .i64 0, .int .i64 0, .int .i64 0] 34)) (W0.heap.size + 1) Wq.heap.size 0 0 (W : Int) (H : Int) q n cap ⟨T, 0, 0, 0⟩) := hide ⟨vb_new Wq 34 _ _ rfl, by have h9 := hrow.below hA2; rw [World.size_alloc] at h9; exact h9⟩
  have hq1 := hrow.ge
  have hq2 := (hrow.lt q rfl).2
  rw [World.size_alloc] at hq1
  have hcap : n ≤ cap ∧ cap ≤ 9223372036854775807 := by
    have hn0 : n ≠ 0 := by rw [unhide HN]; exact Nat.pos_iff_ne_zero.1 (Nat.mul_pos hW1 hH1)
    obtain ⟨q', cap', e, _, _, _, h5, h6⟩ := hrow.full hn0
    simp only [Value.slice.injEq] at e
    obtain ⟨_, _, rfl⟩ := e
    exact ⟨h5, h6⟩
  obtain ⟨hcap1, hcap2⟩ := hcap
  have HJ1 := hide (unhide HJ _ (exT (fun _ => False) W0.heap.size Wq.heap.size q) _ _ _ (unhide HJ0) (Grw.of_bel hbW) (fun b hb => by rcases hb with h | h | h | h; exact h.elim; exact .inr (by omega); exact .inr (by omega); exact .inr (by omega)))
  clear hbq hrow k0 k1 k2 hA2 hbW
  gi_wp2
  clear cp
  have hT : (Wq.alloc (.cells #[.int .i64 0, .int .i64 0, .int .i64 (W : Int), .int .i64 (H : Int), .slice (some ⟨q, 0, none⟩) n cap, .int .i64 0, .int .i64 0, .int .i64 0] 34)).heap.size = Wq.heap.size + 1 := by simp
  clear HA2 HVY1 HVR1 HVP1 HB1 HBQ HROW HJ0 HCP
  generalize (Wq.alloc (.cells #[.int .i64 0, .int .i64 0, .int .i64 (W : Int), .int .i64 (H : Int), .slice (some ⟨q, 0, none⟩) n cap, .int .i64 0, .int .i64 0, .int .i64 0] 34)) = WL at *
  refine range_x (R := Rp) (N := ps.length) (gf := gf) (lb := lbp) rfl eg (fun b hb => by have := hRp b hb; omega) (unhide HSQ) (unhide HBW) (fun _ => rfl)
    (Lt J W0.heap.size Wq.heap.size q (Wq.heap.size + 1) Br (W0.heap.size + 1) l W H r n cap ⟨T, 0, 0, 0⟩ ps) (fun O c X => ∃ k, k < (lsq (tkd W H r ⟨T, 0, 0, 0⟩ ps) ps.length).length ∧ Jx (exT O W0.heap.size Wq.heap.size q) k X ∧ (∀ b, O b → Wq.heap.size + 1 ≤ b) ∧ Wq.heap.size + 1 ≤ X.heap.size) ?hI ?hIx
    ⟨unhide HJ1, unhide HVY, unhide HVR, unhide HPN, fun _ h => h.elim, by omega⟩
    (fun O c_ a' X => ∃ (x y : Nat) (z : Int), ps[c_]? = some (x, y, z) ∧ ∃ b6, vb X b6 73 [.int .i64 (x : Int), .int .i64 (y : Int), .int .i64 z] ∧ ¬ O b6 ∧ Wq.heap.size + 1 ≤ b6 ∧ J (exU O W0.heap.size Wq.heap.size q b6 b6) (cnq (tkd W H r ⟨T, 0, 0, 0⟩ ps) c_) X ∧ a' = ({ tmps := #[.func (.yield l) #[] #[], .pointer (some ⟨Bk, 0, none⟩), .pointer (some ⟨Bp, 0, none⟩), .pointer (some ⟨Br, 0, none⟩), .pointer (some ⟨W0.heap.size, 0, none⟩), .pointer (some ⟨Wq.heap.size, 0, none⟩), .pointer (some ⟨b6, 0, none⟩), undef, .agg #[.int .i64 (W : Int), .int .i64 (H : Int), .slice (some ⟨g, po, none⟩) n c], .agg #[.int .i64 (W : Int), .int .i64 (H : Int), .slice (some ⟨q, 0, none⟩) n cap], .agg #[.int .i64 0, .int .i64 0, .int .i64 (W : Int), .int .i64 (H : Int), .slice (some ⟨q, 0, none⟩) n cap, .int .i64 0, .int .i64 0, .int .i64 0], .func (.func gf) #[] lbp, .agg #[.int .i64 (x : Int), .int .i64 (y : Int), .int .i64 z], undef, undef, undef, undef, undef, undef, undef, undef, undef, undef, undef, undef, undef, undef, undef, undef, undef, undef, undef, undef, undef], defers := [] } : Act))
    ?hAx ?assign ?body ?done ?stop
  case hI =>
    rintro O O' k A B ⟨hj, hy, hvr, hpn, hfar, hbig⟩ hg hO
    have hbel : Below (Wq.heap.size + 1) A B := hg.bel hbig hfar
    refine ⟨unhide HJ _ _ _ _ _ hj (hg.mono (fun b hb => .inl hb)) (fun b hb => ?_), hy.below hbel (by omega), hvr.below hbel (by omega), ⟨hpn.v.below hbel (by omega), hpn.row.kept' (fun b hb => by simp only [Value.ownBlock, Option.some.injEq] at hb; subst hb; exact hbel.block _ (by omega))⟩, fun b hb => (hO b hb).elim (hfar b) (fun h => by omega), Nat.le_trans hbig hg.size⟩
    rcases hb with h | h
    · exact (hO b h).elim (fun h => .inl (.inl h)) .inr
    · exact .inl (.inr h)
  case hIx =>
    rintro O O' a A B ⟨k, hk, hj, hfar, hbig⟩ hg hO
    refine ⟨k, hk, unhide HJX _ _ _ _ _ hj (hg.mono (fun b hb => .inl hb)) (fun b hb => ?_), fun b hb => (hO b hb).elim (hfar b) (fun h => by omega), Nat.le_trans hbig hg.size⟩
    rcases hb with h | h
    · exact (hO b h).elim (fun h => .inl (.inl h)) .inr
    · exact .inl (.inr h)
  case hAx =>
    rintro O k a' A B ⟨x, y, z, hp, b6, h1, h2, h3, h4, h5⟩ hg
    exact ⟨x, y, z, hp, b6, (hg.block _ h1.lt h2).trans h1, h2, h3, unhide HJ _ _ _ _ _ h4 (hg.mono (fun b hb => .inl (.inl hb))) (fun b hb => .inl hb), h5⟩
  case assign =>
    intro l' O c_ X K hc_ hO hi hK
    have HK := hide hK
    have HI := hide hi
    clear hK hi
    obtain ⟨⟨x, y, z⟩, hp⟩ : ∃ p, ps[c_]? = some p := ⟨_, List.getElem?_eq_getElem hc_⟩
    have HP := hide hp
    rw [plc_at hp]
    unfold plV
    clear hp
    gi_wp2
    have hA : Below X.heap.size X (X.alloc (.cells #[.int .i64 (x : Int), .int .i64 (y : Int), .int .i64 z] 73)) := ba (Below.refl _ _) _
    have h := unhide HI
    exact unhide HK _ _ (Kpx.of_bel hA) ⟨unhide HJ _ _ _ _ _ h.j (Grw.of_bel hA) (fun b hb => .inl hb), h.vy.bel hA, h.vr.bel hA, h.pn.bel hA, h.far, Nat.le_trans h.big hA.size⟩ ⟨x, y, z, unhide HP, X.heap.size, vb_new X 73 _ _ rfl, fun hh => by have := (hO _ hh).2; omega, h.big, unhide HJ _ _ _ _ _ h.j (Grw.of_bel hA) (fun b hb => hb.elim .inl (fun e => .inr (by omega))), rfl⟩
  case body =>
    rintro l' O c_ a' X _ hOl hc_ hO hi ⟨x, y, z, hp, b6, h6, hn6, hl6, hj6, rfl⟩
    have HI := hide hi
    have H6 := hide h6
    have HJ6 := hide hj6
    obtain ⟨hxW, hyH, hz0, hz1⟩ := unhide HPS _ (List.mem_of_getElem? hp)
    have HP := hide hp
    have HOK := hide (unhide HO c_ (by omega))
    have HY1 := hide (fun hb => tkd_yes (W := W) (H := H) (r := r) (s := ⟨T, 0, 0, 0⟩) (c := c_) hp hb)
    have HN1 := hide (fun hb => tkd_no (W := W) (H := H) (r := r) (s := ⟨T, 0, 0, 0⟩) (c := c_) hp hb)
    have HPN1 := hide hi.pn
    obtain ⟨sk, hsk⟩ : ∃ sk, lfS W H r ⟨T, 0, 0, 0⟩ ps c_ = sk := ⟨_, rfl⟩
    rw [hsk] at HOK HY1 HN1 HPN1
    have HPKx := hide (unhide HPK x y hxW hyH)
    have hpl : (pieces W H r x y).length ≤ 24 := by rw [pieces_len]; exact vn_le hH hyH
    have k2 := hi.pn.v.cell (m := 2) rfl
    have k3 := hi.pn.v.cell (m := 3) rfl
    have k4 := hi.pn.v.cell (m := 4) rfl
    have kr := hi.vr.cell (m := 0) rfl
    have p0 := h6.cell (m := 0) rfl
    have p1 := h6.cell (m := 1) rfl
    have hbig := hi.big
    have h6l := h6.lt
    have hHO := hide hO
    simp only at hxW hyH hz0 hz1
    clear hi h6 hj6 hp hsk hO
    gi_wp2
    refine ⟨trivial, rfl, (CallsIn.inRound l' (callsIn_wide.2 (unhide HUN x y q cap X hxW hyH hcap1 hcap2))).mono ?_⟩
    rintro _ X1 ⟨⟨v, rfl, hvn, hpc⟩, hb1⟩
    obtain ⟨bu, cu, hve, hbu1, hbu2, _⟩ := hpc.form hvn
    have HVE := hide hve
    have HVN := hide hvn
    have HPC := hide hpc
    have HB1 := hide hb1
    have HPN2 := hide ((unhide HPN1).bel hb1)
    have H6b := hide ((unhide H6).bel hb1)
    obtain ⟨t, ht⟩ : ∃ t, hi sk.T (cols W H r x y) = t := ⟨_, rfl⟩
    have HTT : Hid (tkb W H r sk (x, y, z) = !decide (t ≤ z)) := hide (by unfold tkb; rw [ht])
    have HHG : Hid (∀ X', Below X1.heap.size X1 X' → Calls Try.prog 38 #[v] X' fun e w' => e = .returned (.int .i64 t) ∧ Below X'.heap.size X' w') := hide (fun X' hX => by
      rw [← ht]
      exact (hgP_any v X.heap.size q 0 (pieces W H r x y) sk.T X' ((unhide HPC).bel (unhide HVN) hX) (unhide HVN) ((unhide HPN2).bel hX).row.ints (by rw [(unhide HOK).len, unhide HN]; exact unhide HPKx) (by rw [(unhide HOK).len]; exact hnb) hpl).mono (fun e w' h => ⟨h.1, h.2.bel⟩))
    clear hve hvn hpc hb1 k2 k3 k4 kr p0 p1 ht
    gi_wp2
    refine wpIn_mono (tk5 (t := t) H6b HHG ?hq) (Only.to (fun _ _ h => h))
    intro X2 hb2
    have HB2 := hide (bc (unhide HB1) hb2)
    have HPC2 := hide ((unhide HPC).bel (unhide HVN) hb2)
    have h6c := (unhide H6b).bel hb2
    have H6c := hide h6c
    have hX12 := hb2.size
    clear hb2
    by_cases hle : t ≤ z
    · have tt := decide_eq_true hle
      obtain ⟨htd, hls⟩ := unhide HN1 (by rw [unhide HTT, tt]; rfl)
      have HNX := hide (cnq_none htd)
      have HLS := hide hls
      clear htd hls h6c
      gi_wp2
      have h2 := unhide HI
      have h3 := unhide HB2
      refine ⟨Kpx.of_bel h3, ⟨?_, h2.vy.bel h3, h2.vr.bel h3, ?_, h2.far, Nat.le_trans h2.big h3.size⟩⟩
      · rw [unhide HNX]
        exact unhide HJ _ _ _ _ _ (unhide HJ6) (Grw.of_bel h3) (fun q hq => .inl (.inl hq))
      · rw [unhide HLS]
        exact (unhide HPN1).bel h3
    · have tt := decide_eq_false hle
      obtain ⟨htd, hls⟩ := unhide HY1 (by rw [unhide HTT, tt]; rfl)
      obtain ⟨hat, hnx, hkl⟩ := cnq_some hc_ htd
      have HNX := hide hnx
      have HLS := hide hls
      have HPL := hide (plc_at hat)
      obtain ⟨k, hk⟩ : ∃ k, cnq (tkd W H r ⟨T, 0, 0, 0⟩ ps) c_ = k := ⟨_, rfl⟩
      rw [hk] at HPL HNX HJ6 hkl
      have cy := ((unhide HI).vy.bel (unhide HB2)).cell (m := 0) rfl
      have p0 := h6c.cell (m := 0) rfl
      have p1 := h6c.cell (m := 1) rfl
      have p2 := h6c.cell (m := 2) rfl
      have hXX2 := (unhide HB2).size
      obtain ⟨fn, tmps, assign, body, hy, hR⟩ := unhide HY (exU O W0.heap.size Wq.heap.size q b6 bu) k X2 hkl (fun b hb => by
          rcases hb with (h | h | h | h) | h | h
          · have := unhide hHO b h; omega
          · omega
          · omega
          · omega
          · omega
          · omega) (unhide HJ _ _ _ _ _ (unhide HJ6) (Grw.of_bel (unhide HB2)) (fun b hb => by rcases hb with h | h | h; exact .inl (.inl h); exact .inl (.inr (.inl h)); exact .inr (by omega)))
      rw [unhide HPL] at hy
      unfold plV at hy
      clear htd hls hat hnx h6c
      gi_wp2
      refine ⟨rfl, hR.mono ?_⟩
      rintro _ X3 (⟨rfl, hJ', hk'⟩ | ⟨rfl, hx', hkx⟩)
      · have HJ' := hide hJ'
        have HK' := hide hk'
        have q2 := (hk'.vb (unhide H6c) (.inr (.inr (.inl rfl)))).cell (m := 2) rfl
        have hX23 := hk'.size
        have HP3 : Hid (Pn X3 (W0.heap.size + 1) Wq.heap.size 0 0 (W : Int) (H : Int) q n cap sk) := hide (by
          have h9 := (unhide HPN1).bel (unhide HB2)
          exact ⟨hk'.vb h9.v (.inr (.inl (.inr (.inr (.inl rfl))))), h9.row.kept' (fun b hb => by simp only [Value.ownBlock, Option.some.injEq] at hb; subst hb; exact hk'.keep _ (.inr (.inl (.inr (.inr (.inr rfl))))) (by omega))⟩)
        have HPC3 := hide ((unhide HPC2).kept (w' := X3) (fun b hb => by rw [unhide HVE] at hb; simp only [Value.ownBlock, Option.some.injEq] at hb; subst hb; exact hk'.keep _ (.inr (.inr (.inr rfl))) (by omega)))
        have HTK := hide (tkP_any v X.heap.size (W0.heap.size + 1) Wq.heap.size 0 0 (W : Int) (H : Int) q n cap (pieces W H r x y) z sk X3 (unhide HPC3) (unhide HVN) (by rw [unhide HN]; exact unhide HPKx) hpl hnb ⟨hz0, hz1⟩ (unhide HOK) (by omega) (by omega) (by omega) (unhide HP3))
        clear hJ' hk' hR hy cy p0 p1 p2
        gi_wp2
        refine ⟨trivial, rfl, (CallsIn.inRound l' (callsIn_wide.2 (unhide HTK))).mono ?_⟩
        rintro _ X4 ⟨rfl, hpn4, hmq⟩
        have HPN4 := hide hpn4
        have HMQ := hide hmq
        clear hpn4 hmq q2
        gi_wp2
        have h2 := unhide HI
        have h3 := unhide HK'
        have h4 := unhide HMQ
        have h5 := unhide HB2
        have hblk : ∀ b, b < X3.heap.size → b ≠ Wq.heap.size → b ≠ q → X4.heap[b]? = X3.heap[b]? := fun b h1 h2 h3 => h4.block b h1 h2 h3
        refine ⟨⟨h4.os.trans (h3.os.trans h5.os), h4.tape.trans (h3.tape.trans h5.tape), h4.output.trans (h3.output.trans h5.output), Nat.le_trans h5.size (Nat.le_trans h3.size h4.size), fun b hb hbl => ?_⟩, ⟨?_, ?_, ?_, ?_, h2.far, Nat.le_trans h2.big (Nat.le_trans h5.size (Nat.le_trans h3.size h4.size))⟩⟩
        · have hne : b ≠ Wq.heap.size ∧ b ≠ q := by
            rcases hb with h | h
            · have := hRp b h; omega
            · have := h2.far b h; omega
          exact (hblk b (by omega) hne.1 hne.2).trans ((h3.keep b (hb.elim (fun h => .inl (hRR b h)) (fun h => .inr (.inl (.inl h)))) (by omega)).trans (h5.block b hbl))
        · rw [unhide HNX]
          exact unhide HJ _ _ _ _ _ (unhide HJ') ⟨h4.os, h4.tape, h4.output, h4.size, fun b hb hn => h4.block b hb (fun e => hn (.inl (.inr (.inr (.inl e))))) (fun e => hn (.inl (.inr (.inr (.inr e)))))⟩ (fun b hb => .inl (.inl hb))
        · have h9 := h3.vb (h2.vy.bel h5) (.inr (.inl (.inr (.inl rfl))))
          exact (hblk _ h9.lt (by omega) (by omega)).trans h9
        · have h9 := h3.vb (h2.vr.bel h5) (.inl hRb)
          exact (hblk _ h9.lt (by omega) (by omega)).trans h9
        · rw [unhide HLS]
          exact unhide HPN4
      · have HX' := hide hx'
        have HKX := hide (fun b hb (hl : b < X.heap.size) => (hkx b hb (Nat.lt_of_lt_of_le hl (unhide HB2).size)).trans ((unhide HB2).block b hl))
        clear hx' hkx hR hy cy p0 p1 p2
        gi_wp2
        have h2 := unhide HI
        refine ⟨fun b hb hl => unhide HKX b (.inl (.inl hb)) hl, k, hkl, unhide HJX _ _ _ _ _ (unhide HX') ⟨rfl, rfl, rfl, Nat.le_refl _, fun _ _ _ => rfl⟩ (fun b hb => .inl (.inl hb)), h2.far, ?_⟩
        have h9 := unhide HKX Wq.heap.size (.inl (.inr (.inr (.inl rfl)))) (unhide HPN1).v.lt
        have h8 := (Array.getElem?_eq_some_iff.1 (h9.trans (unhide HPN1).v)).1
        omega
  case done =>
    intro O D X hD hi hK hOD
    have HI := hide hi
    have HK := hide hK
    clear hi hK
    gi_wp2
    refine ⟨by simp, .inl ⟨_, _, rfl, run_takeDeferred (unhide HK), ?_⟩⟩
    exact ⟨_, results_none rfl _ _ _, ⟨_, rfl⟩, _, .inl (unhide HJ _ _ _ _ _ (unhide HI).j (Grw.put (.inl hOD) _) (fun b hb => .inl hb))⟩
  case stop =>
    rintro O D a X hD ha ⟨k, hk, hj, hfar, hbig⟩ hK hOD
    have HJ3 := hide hj
    have HK := hide hK
    clear hj hK
    gi_wp2
    refine ⟨by simp, .inl ⟨_, _, rfl, run_takeDeferred (unhide HK), ?_⟩⟩
    exact ⟨_, results_none rfl _ _ _, ⟨_, rfl⟩, _, .inr ⟨k, hk, unhide HJX _ _ _ _ _ (unhide HJ3) (Grw.put (.inl hOD) _) (fun b hb => .inl hb)⟩⟩
end Go.Proofs.Ytjhldjojkaphkaa
