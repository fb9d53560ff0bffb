/-
  Drawn links are right ones, whatever the code.
-/
import Derived.Test.YtmhdodecofpchaaAtD
import Derived.Test.YtmhdodecofpchaaLkd6
import Derived.Test.YtmhdodecofpchaaChMath
import Derived.Test.YtmhdodecofpchaaLkRows
namespace Go.Proofs.Ytmhdodecofpchaa
open Go.ChangeShapes Go.WideShapes Go.ChangeAt Go.RowKit
set_option linter.unusedVariables false
set_option linter.unusedSimpArgs false

def nms : List ByteArray := [⟨#[97]⟩, ⟨#[98]⟩, ⟨#[99]⟩, ⟨#[208, 180, 208, 190, 208, 188]⟩, ⟨#[101]⟩, ⟨#[102]⟩, ⟨#[103]⟩, ⟨#[206, 187]⟩]
def nmv : List Value := nms.map Value.string
theorem nms_ok : ∀ s ∈ nms, nameB s = true := by
  intro s hs
  simp only [nms, List.mem_cons, List.mem_nil_iff, or_false] at hs
  rcases hs with h | h | h | h | h | h | h | h <;> subst h <;> decide +kernel
theorem nms_nodup : nms.Nodup := by decide +kernel
/-- what is drawn so far: right links whose names are the first ones -/
structure Drawn (ls : List Lk) : Prop where
  ok : ∀ l ∈ ls, LOk l
  nm : ls.map (·.nm) = nms.take ls.length
  le : ls.length ≤ 8
theorem Drawn.right {ls : List Lk} (h : Drawn ls) (h1 : 1 ≤ ls.length) : Right ls := by
  refine ⟨h1, by have := h.le; omega, h.ok, ?_⟩
  show (ls.map (·.nm)).Nodup
  rw [h.nm]
  exact nms_nodup.sublist (List.take_sublist _ _)
theorem Drawn.nil : Drawn [] := ⟨by simp, rfl, by simp⟩
theorem Drawn.snoc {ls : List Lk} (h : Drawn ls) {l : Lk} (hl : LOk l) (hn : nms[ls.length]? = some l.nm) : Drawn (ls ++ [l]) := by
  refine ⟨?_, ?_, ?_⟩
  · intro x hx
    rcases List.mem_append.1 hx with h1 | h1
    · exact h.ok x h1
    · simp only [List.mem_singleton] at h1
      subst h1
      exact hl
  · rw [List.map_append, h.nm, List.length_append]
    show nms.take ls.length ++ [l.nm] = nms.take (ls.length + 1)
    rw [List.take_add_one, hn]
    rfl
  · have := (List.getElem?_eq_some_iff.1 hn).1
    simp only [List.length_append, List.length_cons, List.length_nil]
    have e : nms.length = 8 := rfl
    omega
theorem nm_size {ls : List Lk} (h : Right ls) : ∀ l ∈ ls, l.nm.size ≤ 1048576 := by
  intro l hl
  have := (h.2.2.1 l hl).nm
  unfold nameB at this
  have := of_decide_eq_true this
  omega

theorem So.mvL {B g T : Nat} {k : Int} {w w' : World} (h : So B g k w) (hb : Mv T w w') (hT : B ≤ T) (hg : T ≠ g) : So B g k w' :=
  h.kept (fun b h1 h2 => hb.block b h1 (by have := h.above; omega)) hb.size

theorem ownsRow_keptL {w w' : World} {B t k n : Nat} {v : Value} {L : List Value} (h : w.ownsRow B t k v n L) (hb : ∀ g, B ≤ g → g < w.heap.size → w'.heap[g]? = w.heap[g]?) : w'.ownsRow B t k v n L := by
  refine ⟨h.1, ?_⟩
  rcases h.2 with h1 | ⟨g, cap, cur, hv, hB, hh, r⟩
  · exact .inl h1
  · exact .inr ⟨g, cap, cur, hv, hB, (hb g hB (Array.getElem?_eq_some_iff.1 hh).1).trans hh, r⟩
theorem rowL_form {w : World} {B n : Nat} {v : Value} {ls : List Lk} (h : w.ownsRow B 29 5 v n (flat5 ls)) :
    ∃ (u : Option Addr) (cap : Nat), v = .slice u n cap ∧ (n ≠ 0 → ∃ g, u = some ⟨g, 0, none⟩ ∧ B ≤ g ∧ g < w.heap.size ∧ LkAt w g 0 ls) := by
  rcases h.2 with ⟨rfl, rfl⟩ | ⟨g, cap, cur, rfl, hb, hh, hn, hm, hs, ht⟩
  · exact ⟨none, 0, rfl, fun h => absurd rfl h⟩
  · refine ⟨_, cap, rfl, fun _ => ⟨g, rfl, hb, (Array.getElem?_eq_some_iff.1 hh).1, ?_⟩⟩
    have cellv : ∀ (j : Nat) (x : Value), (flat5 ls)[j]? = some x → w.cell? ⟨g, j, none⟩ = some x := by
      intro j x hj
      have h1 : (cur.toList.take (n * 5))[j]? = some x := by rw [ht]; exact hj
      simp only [World.cell?]
      rw [hh]
      rw [List.getElem?_take] at h1
      split at h1
      · simpa using h1
      · cases h1
    intro i l hi
    obtain ⟨f0, f1, f2, f3, f4⟩ := flat5_at hi
    simp only [Nat.zero_add]
    exact ⟨cellv _ _ f0, cellv _ _ f1, cellv _ _ f2, cellv _ _ f3, cellv _ _ f4⟩

/-- on the way to a link: the source, what is kept, the link's own block -/
structure Ds (B g T : Nat) (k : Int) (V : World) (l : Lk) (W : World) : Prop where
  so : So B g k W
  mv : Mv g V W
  tb : vblk W T 29 (lkc l)
  hT : V.heap.size ≤ T
  hg : g < V.heap.size
theorem Ds.step {B g T : Nat} {k k' : Int} {V W W' : World} {l : Lk} (h : Ds B g T k V l W) (hs : So B g k' W') (mv : Mv g W W') : Ds B g T k' V l W' :=
  ⟨hs, h.mv.trans mv, (mv.block _ h.tb.lt (by have := h.hT; have := h.hg; omega)).trans h.tb, h.hT, h.hg⟩
theorem Ds.set {B g T : Nat} {k : Int} {V W : World} {l l' : Lk} (h : Ds B g T k V l W) (j : Nat) (v : Value) (e : (lkc l).set j v = lkc l') : Ds B g T k V l' (W.setCell ⟨T, j, none⟩ v) := by
  have h1 := h.hT
  have h2 := h.hg
  have h3 := h.so.above
  refine ⟨h.so.set (by omega) (by omega) _ _, h.mv.new h1 _ _, ?_, h1, h2⟩
  have := h.tb.set j v
  rwa [e] at this
theorem lkc_one (l : Lk) : ∀ u ∈ lkc l, u.oneCell' = true := by
  intro u hu
  simp only [lkc, List.mem_cons, List.mem_nil_iff, or_false] at hu
  rcases hu with h | h | h | h | h <;> subst h <;> rfl
theorem flat5_snoc (ls : List Lk) (l : Lk) : flat5 (ls ++ [l]) = flat5 ls ++ lkc l := by rw [flat5_append]; rfl
theorem info_partsD {P : Program} {t : Nat} {z : Value} {k b : Nat} (h : (P.info? t).map (fun i => (i.zero, i.size, i.bytes)) = some (some z, k, b)) : ∃ i, P.info? t = some i ∧ i.zero = some z ∧ i.size = k ∧ i.bytes = b := by
  cases hx : P.info? t with
  | none => rw [hx] at h; simp at h
  | some i =>
    rw [hx] at h
    simp only [Option.map_some, Option.some.injEq, Prod.mk.injEq] at h
    exact ⟨i, rfl, h.1, h.2.1, h.2.2⟩
theorem So.low {B g C : Nat} {k : Int} {w w' : World} (h : So B g k w) (hb : Below C w w') (hg : g < C) : So B g k w' := by
  have := h.above
  exact h.kept (fun b _ h2 => hb.block b (by omega)) hb.size
theorem Mv.low {g C : Nat} {w W w' : World} (x : Mv g w W) (hb : Below C W w') (hC : w.heap.size ≤ C) : Mv g w w' :=
  ⟨hb.os.trans x.os, hb.tape.trans x.tape, hb.output.trans x.output, Nat.le_trans x.size hb.size, fun k hk h1 => (hb.block k (by omega)).trans (x.block k hk h1)⟩

set_option maxHeartbeats 4000000 in
set_option maxRecDepth 100000 in
theorem linksD_any (B g : Nat) (k : Int) (w : World) (h : So B g k w) (hk : k ≤ 1000) :
    Calls Try.prog 31 #[.pointer (some ⟨g, 0, none⟩)] w fun e w' => ∃ u q c ls, e = .returned (.slice u ls.length c) ∧ Lks w' u q 0 ls ∧ w.heap.size ≤ q ∧ Right ls ∧ Mv g w w' := by
  have HS := hide h
  have hg := h.lt
  clear h
  obtain ⟨iI, hin1, hy0, hy1, hy2⟩ := info_partsD lk_info
  go_enter Try.func31, Try.ntmps31
  go_wp2_with fail
  have HS0 := hide (((unhide HS).alloc (.cells nmv.toArray 9)).alloc (.cells #[] 29))
  have HM0 := hide (((Mv.refl g w).alloc (.cells nmv.toArray 9)).alloc (.cells #[] 29))
  have HN0 := hide ((vblk_new w 9 nmv).bel (ba (Below.refl _ _) (.cells #[] 29)))
  have HR0 : Hid (((w.alloc (.cells nmv.toArray 9)).alloc (.cells #[] 29)).ownsRow (w.heap.size + 1) 29 5 (.slice (some ⟨w.heap.size + 1, 0, none⟩) 0 0) 0 (flat5 [])) := hide (by
    have := World.ownsRow_made (size := 5) (e := 29) (w.alloc (.cells nmv.toArray 9)) #[] 0 (base := w.heap.size + 1) (by simp) (by decide) (by simp)
    rw [show w.heap.size + 1 = (w.alloc (.cells nmv.toArray 9)).heap.size by simp]
    rw [show w.heap.size + 1 = (w.alloc (.cells nmv.toArray 9)).heap.size by simp] at this
    exact this)
  refine (size_any 7 (unhide HS0) (by omega) (by omega)).mono ?_
  rintro e W1 ⟨r1, rfl, ra, rb, rfl⟩
  go_wp2_with fail
  refine (next_any (r1 + 1) (unhide HS0) (by omega) (by omega) (by omega)).mono ?_
  rintro e W2 ⟨r2, rfl, rc, rd, hs2, hm2⟩
  have HS2 := hide hs2
  have HM2 := hide ((unhide HM0).trans hm2)
  have HN2 : Hid (vblk W2 w.heap.size 9 nmv) := hide ((hm2.block _ (unhide HN0).lt (by omega)).trans (unhide HN0))
  have HR2 : Hid (W2.ownsRow (w.heap.size + 1) 29 5 (.slice (some ⟨w.heap.size + 1, 0, none⟩) 0 0) 0 (flat5 [])) := hide (ownsRow_keptL (unhide HR0) (fun b hb h2 => hm2.block b h2 (by omega)))
  clear hs2 hm2 HS0 HM0 HN0 HR0
  obtain ⟨i0, rfl⟩ : ∃ i0 : Nat, r2 = (i0 : Int) := ⟨r2.toNat, by omega⟩
  go_wp2_with fail
  go_loopw [4, 5] (fun s z W => ∃ (v : Value) (i : Nat) (ls : List Lk), s = v ∧ z = .int .i64 (i : Int) ∧ i + ls.length = 1 + i0 ∧ Drawn ls ∧ So B g (k + 3 + 40 * (ls.length : Int)) W ∧ Mv g w W ∧ vblk W w.heap.size 9 nmv ∧ W.ownsRow (w.heap.size + 1) 29 5 v ls.length (flat5 ls)) (fun _ z _ => (intOf z).toNat)
  case atStart => exact ⟨_, 1 + i0, [], rfl, by simp, by simp, Drawn.nil, by simpa using unhide HS2, unhide HM2, unhide HN2, unhide HR2⟩
  case round =>
    obtain ⟨v, i, ls, rfl, rfl, hil, hd, hso, hmv, hnb, hrow⟩ := hrel
    obtain ⟨ku, kc, rfl, hform⟩ := rowL_form hrow
    have HD := hide hd
    have HSo := hide hso
    have HMv := hide hmv
    have HNb := hide hnb
    have HRow := hide hrow
    have HF := hide hform
    have hle := hd.le
    have hgr : g < wr.heap.size := hso.lt
    have hszr := hmv.size
    have hNlt := hnb.lt
    clear hd hso hmv hnb hrow hform HS2 HM2 HN2 HR2
    by_cases hi : 0 < i ∧ ls.length < 8
    · obtain ⟨hi1, hi2⟩ := hi
      have d1 : decide ((0 : Int) < (i : Int)) = true := decide_eq_true (by omega)
      have d2 : decide ((ls.length : Int) < 8) = true := decide_eq_true (by omega)
      obtain ⟨s, hs⟩ : ∃ s, nms[ls.length]? = some s := ⟨nms[ls.length]'hi2, List.getElem?_eq_getElem _⟩
      have k0 : wr.cell? ⟨w.heap.size, ls.length, none⟩ = some (.string s) := (unhide HNb).cell (by show (nms.map Value.string)[ls.length]? = _; rw [List.getElem?_map, hs]; rfl)
      have HNM := hide hs
      have HOKs := hide (nms_ok s (List.mem_of_getElem? hs))
      have HK0 := hide k0
      clear hs k0
      generalize hkk : k + 3 + 40 * (ls.length : Int) = kk at *
      have HKK := hide hkk
      have hk1 : kk ≤ 2000 := by omega
      clear hkk
      go_wp2_with fail
      refine Go.Code.wp_mono (Only.to (fun _ _ h => h)) (lkd6 (k := kk) (B := B) (V := wr) (s := s) (by omega) hi2 (by omega) hgr (unhide HK0) HSo (fun y26 y27 y28 y29 y30 y31 y32 y33 y34 y35 y36 y37 y38 y39 y40 y41 r1 r2 r3 r4 T W' h1 h2 h3 h4 hz => ?_))
      have H0 : Hid (Ds B g T (kk + 12) wr ⟨s, 2 * r1 - 1, r2, r3, r4⟩ W') := hide ⟨hz.1, hz.2.1, hz.2.2.1, hz.2.2.2, hgr⟩
      obtain ⟨h1a, h1b⟩ := h1
      obtain ⟨h2a, h2b⟩ := h2
      obtain ⟨h3a, h3b⟩ := h3
      obtain ⟨h4a, h4b⟩ := h4
      have hTg : wr.heap.size ≤ T := hz.2.2.2
      clear hz
      have hsg : 2 * r1 - 1 = 1 ∨ 2 * r1 - 1 = -1 := by omega
      generalize 2 * r1 - 1 = sg at *
      go_wp2_with fail
      refine (chance_any 5 (unhide H0).so (by omega) (by omega) (by omega)).mono ?_
      rintro e W3 ⟨b5, rfl, hs3, hm3⟩
      have H1 := hide ((unhide H0).step hs3 hm3)
      clear hs3 hm3 H0
      cases b5
      · go_wp2_with fail
        refine (chance_any 9 (unhide H1).so (by omega) (by omega) (by omega)).mono ?_
        rintro e W4 ⟨b9, rfl, hs4, hm4⟩
        have H2 := hide ((unhide H1).step hs4 hm4)
        clear hs4 hm4 H1
        cases b9
        · have cb := (unhide H2).tb
          have cc0 := cb.cell (m := 0) rfl
          have cc1 := cb.cell (m := 1) rfl
          have cc2 := cb.cell (m := 2) rfl
          have cc3 := cb.cell (m := 3) rfl
          have cc4 := cb.cell (m := 4) rfl
          have cf : ∀ o, W4.frozen? ⟨T, o, none⟩ = false := cb.frozen
          have clt := cb.lt
          clear cb
          have HLO : Hid (LOk (⟨s, sg, r2, r3, r4⟩ : Lk)) := hide ⟨unhide HOKs, hsg, by simp only; omega, by simp only; omega, by simp only; omega, by simp only; omega, by simp only; omega, by simp only; omega⟩
          have HROW : Hid (W4.ownsRow (w.heap.size + 1) 29 5 (.slice ku ls.length kc) ls.length (flat5 ls)) := hide (ownsRow_keptL (unhide HRow) (fun b hb h2 => (unhide H2).mv.block b h2 (by omega)))
          have HSX : Hid (So B g (kk + 40) W4) := hide ((unhide H2).so.up (by omega))
          have HMX : Hid (Mv g w W4) := hide ((unhide HMv).trans (unhide H2).mv)
          have HNX : Hid (vblk W4 w.heap.size 9 nmv) := hide (((unhide H2).mv.block _ hNlt (by omega)).trans (unhide HNb))
          have hsX : w.heap.size + 1 ≤ W4.heap.size := by have := (unhide HNX).lt; omega
          go_wp2_with (at_builtin; refine unhide ?_)
          refine hide ?_
          refine wpList_append_own _ rfl _ _ 23 rfl (w.heap.size + 1) 29 iI _ 5 48 Try.underlying23 hin1 hy0 hy1 hy2 rfl (by decide) _ _ _ rfl ((unhide HROW).alloc _) _ 1 1 (lkc (⟨s, sg, r2, r3, r4⟩ : Lk)) rfl rfl (by first | exact news_cells (lkc (⟨s, sg, r2, r3, r4⟩ : Lk)) _ rfl | exact news_cells (lkc (⟨s, sg, r2, r3, r4⟩ : Lk)) _ (by simp)) (lkc_one _) (by unfold maxLen; omega) (by omega) (by simp; omega) ?_
          intro v' wz hown' hgrow _
          have HBz : Hid (Below (w.heap.size + 1) W4 wz) := hide (((Below.refl _ _).alloc hsX _).grown hgrow (by simp; omega) (fun j hj => (World.ownsRow.lt (unhide HROW) j hj).1))
          have HOWN := hide hown'
          clear hown' hgrow
          go_wp2_with fail
          go_roundw
          case rel =>
            have HX : ∃ (v : Value) (i' : Nat) (ls' : List Lk), v' = v ∧ Value.int .i64 ((i : Int) - 1) = .int .i64 (i' : Int) ∧ i' + ls'.length = 1 + i0 ∧ Drawn ls' ∧ So B g (k + 3 + 40 * (ls'.length : Int)) wz ∧ Mv g w wz ∧ vblk wz w.heap.size 9 nmv ∧ wz.ownsRow (w.heap.size + 1) 29 5 v ls'.length (flat5 ls') := by
              refine ⟨v', i - 1, ls ++ [(⟨s, sg, r2, r3, r4⟩ : Lk)], rfl, by simp; omega, by simp; omega, (unhide HD).snoc (unhide HLO) (unhide HNM), ?_, (unhide HMX).low (unhide HBz) (by omega), (unhide HNX).below (unhide HBz) (by omega), ?_⟩
              · have e : k + 3 + 40 * ((ls ++ [(⟨s, sg, r2, r3, r4⟩ : Lk)]).length : Int) = kk + 40 := by rw [← unhide HKK]; simp; omega
                rw [e]
                exact (unhide HSX).low (unhide HBz) (by omega)
              · rw [flat5_snoc, List.length_append]
                exact unhide HOWN
            first | exact HX | ((repeat apply Exists.intro); refine ⟨?_, rfl⟩; exact HX)
          case measure => simp only [intOf]; omega
        · go_wp2_with fail
          refine (next_any 200001 (unhide H2).so (by omega) (by omega) (by omega)).mono ?_
          rintro e W5 ⟨r5, rfl, q5a, q5b, hs5, hm5⟩
          have H3 := hide ((unhide H2).step hs5 hm5)
          clear hs5 hm5 H2
          have cb := (unhide H3).tb
          have cc0 := cb.cell (m := 0) rfl
          have cc1 := cb.cell (m := 1) rfl
          have cc2 := cb.cell (m := 2) rfl
          have cc3 := cb.cell (m := 3) rfl
          have cc4 := cb.cell (m := 4) rfl
          have cf : ∀ o, W5.frozen? ⟨T, o, none⟩ = false := cb.frozen
          have clt := cb.lt
          clear cb
          have H4 := hide ((unhide H3).set (l' := ⟨s, sg, r5 - 100000, r3, r4⟩) 2 (.int .i64 (r5 - 100000)) rfl)
          clear H3
          go_wp2_with fail
          refine (next_any 100001 (unhide H4).so (by omega) (by omega) (by omega)).mono ?_
          rintro e W6 ⟨r6, rfl, q6a, q6b, hs6, hm6⟩
          have H5 := hide ((unhide H4).step hs6 hm6)
          clear hs6 hm6 H4 cc0 cc1 cc2 cc3 cc4 cf clt
          have cb := (unhide H5).tb
          have cc0 := cb.cell (m := 0) rfl
          have cc1 := cb.cell (m := 1) rfl
          have cc2 := cb.cell (m := 2) rfl
          have cc3 := cb.cell (m := 3) rfl
          have cc4 := cb.cell (m := 4) rfl
          have cf : ∀ o, W6.frozen? ⟨T, o, none⟩ = false := cb.frozen
          have clt := cb.lt
          clear cb
          have H6 := hide ((unhide H5).set (l' := ⟨s, sg, r5 - 100000, r6, r4⟩) 3 (.int .i64 r6) rfl)
          clear H5
          have eb := (unhide H6).tb
          have ee0   := eb.cell (m := 0) rfl
          have ee1   := eb.cell (m := 1) rfl
          have ee2   := eb.cell (m := 2) rfl
          have ee3   := eb.cell (m := 3) rfl
          have ee4   := eb.cell (m := 4) rfl
          have ef : ∀ o, (W6.setCell ⟨T, 3, none⟩ (.int .i64 r6)).frozen? ⟨T, o, none⟩ = false   := eb.frozen
          have elt   := eb.lt
          clear eb
          have HLO : Hid (LOk (⟨s, sg, r5 - 100000, r6, r4⟩ : Lk)) := hide ⟨unhide HOKs, hsg, by simp only; omega, by simp only; omega, by simp only; omega, by simp only; omega, by simp only; omega, by simp only; omega⟩
          have HROW : Hid ((W6.setCell ⟨T, 3, none⟩ (.int .i64 r6)).ownsRow (w.heap.size + 1) 29 5 (.slice ku ls.length kc) ls.length (flat5 ls)) := hide (ownsRow_keptL (unhide HRow) (fun b hb h2 => (unhide H6).mv.block b h2 (by omega)))
          have HSX : Hid (So B g (kk + 40) (W6.setCell ⟨T, 3, none⟩ (.int .i64 r6))) := hide ((unhide H6).so.up (by omega))
          have HMX : Hid (Mv g w (W6.setCell ⟨T, 3, none⟩ (.int .i64 r6))) := hide ((unhide HMv).trans (unhide H6).mv)
          have HNX : Hid (vblk (W6.setCell ⟨T, 3, none⟩ (.int .i64 r6)) w.heap.size 9 nmv) := hide (((unhide H6).mv.block _ hNlt (by omega)).trans (unhide HNb))
          have hsX : w.heap.size + 1 ≤ (W6.setCell ⟨T, 3, none⟩ (.int .i64 r6)).heap.size := by have := (unhide HNX).lt; omega
          go_wp2_with (at_builtin; refine unhide ?_)
          refine hide ?_
          refine wpList_append_own _ rfl _ _ 23 rfl (w.heap.size + 1) 29 iI _ 5 48 Try.underlying23 hin1 hy0 hy1 hy2 rfl (by decide) _ _ _ rfl ((unhide HROW).alloc _) _ 1 1 (lkc (⟨s, sg, r5 - 100000, r6, r4⟩ : Lk)) rfl rfl (by first | exact news_cells (lkc (⟨s, sg, r5 - 100000, r6, r4⟩ : Lk)) _ rfl | exact news_cells (lkc (⟨s, sg, r5 - 100000, r6, r4⟩ : Lk)) _ (by simp)) (lkc_one _) (by unfold maxLen; omega) (by omega) (by simp; omega) ?_
          intro v' wz hown' hgrow _
          have HBz : Hid (Below (w.heap.size + 1) (W6.setCell ⟨T, 3, none⟩ (.int .i64 r6)) wz) := hide (((Below.refl _ _).alloc hsX _).grown hgrow (by simp; omega) (fun j hj => (World.ownsRow.lt (unhide HROW) j hj).1))
          have HOWN := hide hown'
          clear hown' hgrow
          go_wp2_with fail
          go_roundw
          case rel =>
            have HX : ∃ (v : Value) (i' : Nat) (ls' : List Lk), v' = v ∧ Value.int .i64 ((i : Int) - 1) = .int .i64 (i' : Int) ∧ i' + ls'.length = 1 + i0 ∧ Drawn ls' ∧ So B g (k + 3 + 40 * (ls'.length : Int)) wz ∧ Mv g w wz ∧ vblk wz w.heap.size 9 nmv ∧ wz.ownsRow (w.heap.size + 1) 29 5 v ls'.length (flat5 ls') := by
              refine ⟨v', i - 1, ls ++ [(⟨s, sg, r5 - 100000, r6, r4⟩ : Lk)], rfl, by simp; omega, by simp; omega, (unhide HD).snoc (unhide HLO) (unhide HNM), ?_, (unhide HMX).low (unhide HBz) (by omega), (unhide HNX).below (unhide HBz) (by omega), ?_⟩
              · have e : k + 3 + 40 * ((ls ++ [(⟨s, sg, r5 - 100000, r6, r4⟩ : Lk)]).length : Int) = kk + 40 := by rw [← unhide HKK]; simp; omega
                rw [e]
                exact (unhide HSX).low (unhide HBz) (by omega)
              · rw [flat5_snoc, List.length_append]
                exact unhide HOWN
            first | exact HX | ((repeat apply Exists.intro); refine ⟨?_, rfl⟩; exact HX)
          case measure => simp only [intOf]; omega
      · have cb := (unhide H1).tb
        have cc0 := cb.cell (m := 0) rfl
        have cc1 := cb.cell (m := 1) rfl
        have cc2 := cb.cell (m := 2) rfl
        have cc3 := cb.cell (m := 3) rfl
        have cc4 := cb.cell (m := 4) rfl
        have cf : ∀ o, W3.frozen? ⟨T, o, none⟩ = false := cb.frozen
        have clt := cb.lt
        clear cb
        have H1a := hide (((unhide H1).set (l' := ⟨s, sg, r2, 0, r4⟩) 3 (.int .i64 0) rfl).set (l' := ⟨s, sg, r2, 0, 0⟩) 4 (.int .i64 0) rfl)
        clear H1
        go_wp2_with fail
        refine (chance_any 9 (unhide H1a).so (by omega) (by omega) (by omega)).mono ?_
        rintro e W4 ⟨b9, rfl, hs4, hm4⟩
        have H2 := hide ((unhide H1a).step hs4 hm4)
        clear hs4 hm4 H1a
        cases b9
        · have cb := (unhide H2).tb
          have cc0 := cb.cell (m := 0) rfl
          have cc1 := cb.cell (m := 1) rfl
          have cc2 := cb.cell (m := 2) rfl
          have cc3 := cb.cell (m := 3) rfl
          have cc4 := cb.cell (m := 4) rfl
          have cf : ∀ o, W4.frozen? ⟨T, o, none⟩ = false := cb.frozen
          have clt := cb.lt
          clear cb
          have HLO : Hid (LOk (⟨s, sg, r2, 0, 0⟩ : Lk)) := hide ⟨unhide HOKs, hsg, by simp only; omega, by simp only; omega, by simp only; omega, by simp only; omega, by simp only; omega, by simp only; omega⟩
          have HROW : Hid (W4.ownsRow (w.heap.size + 1) 29 5 (.slice ku ls.length kc) ls.length (flat5 ls)) := hide (ownsRow_keptL (unhide HRow) (fun b hb h2 => (unhide H2).mv.block b h2 (by omega)))
          have HSX : Hid (So B g (kk + 40) W4) := hide ((unhide H2).so.up (by omega))
          have HMX : Hid (Mv g w W4) := hide ((unhide HMv).trans (unhide H2).mv)
          have HNX : Hid (vblk W4 w.heap.size 9 nmv) := hide (((unhide H2).mv.block _ hNlt (by omega)).trans (unhide HNb))
          have hsX : w.heap.size + 1 ≤ W4.heap.size := by have := (unhide HNX).lt; omega
          go_wp2_with (at_builtin; refine unhide ?_)
          refine hide ?_
          refine wpList_append_own _ rfl _ _ 23 rfl (w.heap.size + 1) 29 iI _ 5 48 Try.underlying23 hin1 hy0 hy1 hy2 rfl (by decide) _ _ _ rfl ((unhide HROW).alloc _) _ 1 1 (lkc (⟨s, sg, r2, 0, 0⟩ : Lk)) rfl rfl (by first | exact news_cells (lkc (⟨s, sg, r2, 0, 0⟩ : Lk)) _ rfl | exact news_cells (lkc (⟨s, sg, r2, 0, 0⟩ : Lk)) _ (by simp)) (lkc_one _) (by unfold maxLen; omega) (by omega) (by simp; omega) ?_
          intro v' wz hown' hgrow _
          have HBz : Hid (Below (w.heap.size + 1) W4 wz) := hide (((Below.refl _ _).alloc hsX _).grown hgrow (by simp; omega) (fun j hj => (World.ownsRow.lt (unhide HROW) j hj).1))
          have HOWN := hide hown'
          clear hown' hgrow
          go_wp2_with fail
          go_roundw
          case rel =>
            have HX : ∃ (v : Value) (i' : Nat) (ls' : List Lk), v' = v ∧ Value.int .i64 ((i : Int) - 1) = .int .i64 (i' : Int) ∧ i' + ls'.length = 1 + i0 ∧ Drawn ls' ∧ So B g (k + 3 + 40 * (ls'.length : Int)) wz ∧ Mv g w wz ∧ vblk wz w.heap.size 9 nmv ∧ wz.ownsRow (w.heap.size + 1) 29 5 v ls'.length (flat5 ls') := by
              refine ⟨v', i - 1, ls ++ [(⟨s, sg, r2, 0, 0⟩ : Lk)], rfl, by simp; omega, by simp; omega, (unhide HD).snoc (unhide HLO) (unhide HNM), ?_, (unhide HMX).low (unhide HBz) (by omega), (unhide HNX).below (unhide HBz) (by omega), ?_⟩
              · have e : k + 3 + 40 * ((ls ++ [(⟨s, sg, r2, 0, 0⟩ : Lk)]).length : Int) = kk + 40 := by rw [← unhide HKK]; simp; omega
                rw [e]
                exact (unhide HSX).low (unhide HBz) (by omega)
              · rw [flat5_snoc, List.length_append]
                exact unhide HOWN
            first | exact HX | ((repeat apply Exists.intro); refine ⟨?_, rfl⟩; exact HX)
          case measure => simp only [intOf]; omega
        · go_wp2_with fail
          refine (next_any 200001 (unhide H2).so (by omega) (by omega) (by omega)).mono ?_
          rintro e W5 ⟨r5, rfl, q5a, q5b, hs5, hm5⟩
          have H3 := hide ((unhide H2).step hs5 hm5)
          clear hs5 hm5 H2
          have cb := (unhide H3).tb
          have cc0 := cb.cell (m := 0) rfl
          have cc1 := cb.cell (m := 1) rfl
          have cc2 := cb.cell (m := 2) rfl
          have cc3 := cb.cell (m := 3) rfl
          have cc4 := cb.cell (m := 4) rfl
          have cf : ∀ o, W5.frozen? ⟨T, o, none⟩ = false := cb.frozen
          have clt := cb.lt
          clear cb
          have H4 := hide ((unhide H3).set (l' := ⟨s, sg, r5 - 100000, 0, 0⟩) 2 (.int .i64 (r5 - 100000)) rfl)
          clear H3
          go_wp2_with fail
          refine (next_any 100001 (unhide H4).so (by omega) (by omega) (by omega)).mono ?_
          rintro e W6 ⟨r6, rfl, q6a, q6b, hs6, hm6⟩
          have H5 := hide ((unhide H4).step hs6 hm6)
          clear hs6 hm6 H4 cc0 cc1 cc2 cc3 cc4 cf clt
          have cb := (unhide H5).tb
          have cc0 := cb.cell (m := 0) rfl
          have cc1 := cb.cell (m := 1) rfl
          have cc2 := cb.cell (m := 2) rfl
          have cc3 := cb.cell (m := 3) rfl
          have cc4 := cb.cell (m := 4) rfl
          have cf : ∀ o, W6.frozen? ⟨T, o, none⟩ = false := cb.frozen
          have clt := cb.lt
          clear cb
          have H6 := hide ((unhide H5).set (l' := ⟨s, sg, r5 - 100000, r6, 0⟩) 3 (.int .i64 r6) rfl)
          clear H5
          have eb := (unhide H6).tb
          have ee0   := eb.cell (m := 0) rfl
          have ee1   := eb.cell (m := 1) rfl
          have ee2   := eb.cell (m := 2) rfl
          have ee3   := eb.cell (m := 3) rfl
          have ee4   := eb.cell (m := 4) rfl
          have ef : ∀ o, (W6.setCell ⟨T, 3, none⟩ (.int .i64 r6)).frozen? ⟨T, o, none⟩ = false   := eb.frozen
          have elt   := eb.lt
          clear eb
          have HLO : Hid (LOk (⟨s, sg, r5 - 100000, r6, 0⟩ : Lk)) := hide ⟨unhide HOKs, hsg, by simp only; omega, by simp only; omega, by simp only; omega, by simp only; omega, by simp only; omega, by simp only; omega⟩
          have HROW : Hid ((W6.setCell ⟨T, 3, none⟩ (.int .i64 r6)).ownsRow (w.heap.size + 1) 29 5 (.slice ku ls.length kc) ls.length (flat5 ls)) := hide (ownsRow_keptL (unhide HRow) (fun b hb h2 => (unhide H6).mv.block b h2 (by omega)))
          have HSX : Hid (So B g (kk + 40) (W6.setCell ⟨T, 3, none⟩ (.int .i64 r6))) := hide ((unhide H6).so.up (by omega))
          have HMX : Hid (Mv g w (W6.setCell ⟨T, 3, none⟩ (.int .i64 r6))) := hide ((unhide HMv).trans (unhide H6).mv)
          have HNX : Hid (vblk (W6.setCell ⟨T, 3, none⟩ (.int .i64 r6)) w.heap.size 9 nmv) := hide (((unhide H6).mv.block _ hNlt (by omega)).trans (unhide HNb))
          have hsX : w.heap.size + 1 ≤ (W6.setCell ⟨T, 3, none⟩ (.int .i64 r6)).heap.size := by have := (unhide HNX).lt; omega
          go_wp2_with (at_builtin; refine unhide ?_)
          refine hide ?_
          refine wpList_append_own _ rfl _ _ 23 rfl (w.heap.size + 1) 29 iI _ 5 48 Try.underlying23 hin1 hy0 hy1 hy2 rfl (by decide) _ _ _ rfl ((unhide HROW).alloc _) _ 1 1 (lkc (⟨s, sg, r5 - 100000, r6, 0⟩ : Lk)) rfl rfl (by first | exact news_cells (lkc (⟨s, sg, r5 - 100000, r6, 0⟩ : Lk)) _ rfl | exact news_cells (lkc (⟨s, sg, r5 - 100000, r6, 0⟩ : Lk)) _ (by simp)) (lkc_one _) (by unfold maxLen; omega) (by omega) (by simp; omega) ?_
          intro v' wz hown' hgrow _
          have HBz : Hid (Below (w.heap.size + 1) (W6.setCell ⟨T, 3, none⟩ (.int .i64 r6)) wz) := hide (((Below.refl _ _).alloc hsX _).grown hgrow (by simp; omega) (fun j hj => (World.ownsRow.lt (unhide HROW) j hj).1))
          have HOWN := hide hown'
          clear hown' hgrow
          go_wp2_with fail
          go_roundw
          case rel =>
            have HX : ∃ (v : Value) (i' : Nat) (ls' : List Lk), v' = v ∧ Value.int .i64 ((i : Int) - 1) = .int .i64 (i' : Int) ∧ i' + ls'.length = 1 + i0 ∧ Drawn ls' ∧ So B g (k + 3 + 40 * (ls'.length : Int)) wz ∧ Mv g w wz ∧ vblk wz w.heap.size 9 nmv ∧ wz.ownsRow (w.heap.size + 1) 29 5 v ls'.length (flat5 ls') := by
              refine ⟨v', i - 1, ls ++ [(⟨s, sg, r5 - 100000, r6, 0⟩ : Lk)], rfl, by simp; omega, by simp; omega, (unhide HD).snoc (unhide HLO) (unhide HNM), ?_, (unhide HMX).low (unhide HBz) (by omega), (unhide HNX).below (unhide HBz) (by omega), ?_⟩
              · have e : k + 3 + 40 * ((ls ++ [(⟨s, sg, r5 - 100000, r6, 0⟩ : Lk)]).length : Int) = kk + 40 := by rw [← unhide HKK]; simp; omega
                rw [e]
                exact (unhide HSX).low (unhide HBz) (by omega)
              · rw [flat5_snoc, List.length_append]
                exact unhide HOWN
            first | exact HX | ((repeat apply Exists.intro); refine ⟨?_, rfl⟩; exact HX)
          case measure => simp only [intOf]; omega
    · have hend : 1 ≤ ls.length := by omega
      obtain ⟨q, hu, hq, hqs, hat⟩ := unhide HF (by omega)
      have HAT := hide hat
      have HQ := hide hq
      have HU := hide hu
      have HQS := hide hqs
      clear hat hq hu hqs
      by_cases h0 : 0 < i
      · have d1 : decide ((0 : Int) < (i : Int)) = true := decide_eq_true (by omega)
        have d2 : decide ((ls.length : Int) < 8) = false := decide_eq_false (by omega)
        go_wp2_with fail
        go_ret
        exact ⟨ku, q, kc, ls, rfl, fun _ => ⟨unhide HU, unhide HQS, unhide HAT⟩, by have := unhide HQ; omega, (unhide HD).right hend, unhide HMv⟩
      · have d1 : decide ((0 : Int) < (i : Int)) = false := decide_eq_false (by omega)
        go_wp2_with fail
        go_ret
        exact ⟨ku, q, kc, ls, rfl, fun _ => ⟨unhide HU, unhide HQS, unhide HAT⟩, by have := unhide HQ; omega, (unhide HD).right hend, unhide HMv⟩
end Go.Proofs.Ytmhdodecofpchaa
