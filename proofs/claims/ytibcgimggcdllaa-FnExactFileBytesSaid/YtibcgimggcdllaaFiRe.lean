/-
  The model's record of one feature.
-/
import Derived.Test.YtibcgimggcdllaaFiAp
namespace Go.Proofs.Ytibcgimggcdllaa
open Go.ChangeShapes Go.WideShapes Go.ChangeAt Go.RowKit
set_option linter.unusedVariables false
set_option linter.unusedSimpArgs false

def nineL (f : Ft) : List Int := [f.x0, f.y0, f.z0, f.x1, f.y1, f.z1, f.dx, f.dy, f.dz]
theorem nine_at (f : Ft) (i : Nat) (h : i < 9) : ∃ x, (nineL f)[i]? = some x ∧ (numL f)[3 + i]? = some (x + 100) := by
  have hi : i = 0 ∨ i = 1 ∨ i = 2 ∨ i = 3 ∨ i = 4 ∨ i = 5 ∨ i = 6 ∨ i = 7 ∨ i = 8 := by omega
  rcases hi with rfl | rfl | rfl | rfl | rfl | rfl | rfl | rfl | rfl <;> exact ⟨_, rfl, rfl⟩
theorem nine_in {f : Ft} (h : Frs f) : ∀ x ∈ nineL f, -24 ≤ x ∧ x ≤ 24 := by
  have h1 := h.pl
  have h2 := h.st
  intro x hx
  simp only [nineL, List.mem_cons, List.not_mem_nil, or_false] at hx
  rcases hx with rfl | rfl | rfl | rfl | rfl | rfl | rfl | rfl | rfl <;> omega
/-- between two appends -/
structure Rst (w W : World) (Bq gl : Nat) (f : Ft) (v : Value) (N : Nat) (L : List Int) : Prop where
  fb : Fb W Bq v N L
  bo : vb W w.heap.size 53 (ftc f)
  li : vb W gl 3 ((nineL f).map (Value.int .i64))
  be : Below w.heap.size w W
  bq : Bq ≤ W.heap.size
theorem Rst.bel {w W W' : World} {Bq gl N : Nat} {f : Ft} {v : Value} {L : List Int} (h : Rst w W Bq gl f v N L) (hb : Below W.heap.size W W') : Rst w W' Bq gl f v N L :=
  ⟨h.fb.bel hb, h.bo.bel hb, h.li.bel hb, bc h.be hb, Nat.le_trans h.bq hb.size⟩
theorem Rst.more {w W W' : World} {Bq gl N M : Nat} {f : Ft} {v v' : Value} {L L' : List Int} (h : Rst w W Bq gl f v N L) (hw : w.heap.size < Bq) (hg : gl < Bq) (hr : Rb W' Bq v' M L') (hb : Below Bq W W') : Rst w W' Bq gl f v' M L' :=
  ⟨.inl hr, (hb.block _ hw).trans h.bo, (hb.block _ hg).trans h.li, h.be.trans (hb.mono (Nat.le_of_lt hw)), Nat.le_trans h.bq hb.size⟩
theorem str_new (W : World) (s : ByteArray) (cap : Nat) (fz : Nat × Nat) : Bys (W.drew.alloc (.cells (bytesRow s cap) 5 fz)) W.heap.size 0 (strL s) := by
  have hb : (W.drew.alloc (.cells (bytesRow s cap) 5 fz)).heap[W.heap.size]? = some (.cells (bytesRow s cap) 5 fz) := by
    show (W.heap.push _)[W.heap.size]? = _
    rw [Array.getElem?_push_size]
  refine ⟨by show W.heap.size < (W.heap.push _).size; simp, ?_⟩
  intro j x hj
  rw [Nat.zero_add]
  simp only [World.cell?]
  rw [hb]
  have hjl : j < s.data.size := by have := (List.getElem?_eq_some_iff.1 hj).1; rw [strL_len] at this; exact this
  simp only
  rw [bytesRow_at s cap j hjl]
  unfold strL at hj
  rw [List.getElem?_map, Array.getElem?_toList, Array.getElem?_eq_getElem hjl] at hj
  simp at hj
  rw [hj]
  rfl
theorem start_rec (w : World) (f : Ft) (c6 : Array Value) : Rst w ((((w.alloc (.cells (ftc f).toArray 53)).alloc (.cells c6 51)).alloc (.cells #[.int .u8 f.kd, .int .u8 f.sd, .int .u8 f.ct] 5)).alloc (.cells ((nineL f).map (Value.int .i64)).toArray 3)) (w.heap.size + 1 + 1 + 1 + 1) (w.heap.size + 1 + 1 + 1) f (.slice (some ⟨w.heap.size + 1 + 1, 0, none⟩) 3 3) 3 [f.kd, f.sd, f.ct] := by
  have b0 := vb_new w 53 (ftc f) w.heap.size rfl
  have a1 := ba (Below.refl (w.alloc (.cells (ftc f).toArray 53)).heap.size (w.alloc (.cells (ftc f).toArray 53))) (.cells c6 51)
  have b2 := vb_new ((w.alloc (.cells (ftc f).toArray 53)).alloc (.cells c6 51)) 5 (byL [f.kd, f.sd, f.ct]) (w.heap.size + 1 + 1) (by simp)
  have a2 := ba (Below.refl _ ((w.alloc (.cells (ftc f).toArray 53)).alloc (.cells c6 51))) (.cells (byL [f.kd, f.sd, f.ct]).toArray 5)
  have a3 := ba (Below.refl _ (((w.alloc (.cells (ftc f).toArray 53)).alloc (.cells c6 51)).alloc (.cells (byL [f.kd, f.sd, f.ct]).toArray 5))) (.cells ((nineL f).map (Value.int .i64)).toArray 3)
  exact ⟨.inr ⟨_, rfl, (vb.bys b2).bel a3, rfl⟩, ((b0.bel a1).bel a2).bel a3, vb_new _ 3 _ _ (by simp), ba (ba (ba (ba (Below.refl _ _) _) _) _) _, by simp⟩
set_option maxRecDepth 100000 in
set_option maxHeartbeats 8000000 in
theorem rec_any (f : Ft) (w : World) (hf : Frs f) (h1 : 0 < f.nm.size) :
    Calls Try.prog 22 #[ftv f] w fun e w' => (∃ g cap, e = .returned (.slice (some ⟨g, 0, none⟩) (recL f).length cap) ∧ Rb w' w.heap.size (.slice (some ⟨g, 0, none⟩) (recL f).length cap) (recL f).length (recL f)) ∧ Below w.heap.size w w' := by
  have ks := hf.ks
  have HZ := hide (And.intro hf.n1 (And.intro hf.n2 hf.n3))
  have HNA := hide (nine_at f)
  have HNI := hide (nine_in hf)
  have HF := hide hf
  have HNL : Hid ((numL f).length = 12) := hide rfl
  have HN3 : Hid ((numL f).take 3 = [f.kd, f.sd, f.ct]) := hide rfl
  obtain ⟨nm, on, ov, kd, sd, x0, y0, z0, x1, y1, z1, ct, dx, dy, dz⟩ := f
  simp only at ks h1
  have w0 : IntKind.u8.wrap kd = kd := u8_in (by omega) (by omega)
  have w1 : IntKind.u8.wrap sd = sd := u8_in (by omega) (by omega)
  have w2 : IntKind.u8.wrap ct = ct := u8_in (by omega) (by omega)
  unfold ftv
  clear hf
  go_enter Try.func22, Try.ntmps22
  go_wp2_with fail
  have st := start_rec w ⟨nm, on, ov, kd, sd, x0, y0, z0, x1, y1, z1, ct, dx, dy, dz⟩ #[.int .i64 x0, .int .i64 y0, .int .i64 z0, .int .i64 x1, .int .i64 y1, .int .i64 z1]
  simp only [ftc, nineL, List.map_cons, List.map_nil] at st
  have HST := hide st
  clear st
  generalize ((((w.alloc (.cells #[.string nm, .string on, .string ov, .int .i64 kd, .int .i64 sd, .int .i64 x0, .int .i64 y0, .int .i64 z0, .int .i64 x1, .int .i64 y1, .int .i64 z1, .int .i64 ct, .int .i64 dx, .int .i64 dy, .int .i64 dz] 53)).alloc (.cells #[.int .i64 x0, .int .i64 y0, .int .i64 z0, .int .i64 x1, .int .i64 y1, .int .i64 z1] 51)).alloc (.cells #[.int .u8 kd, .int .u8 sd, .int .u8 ct] 5)).alloc (.cells #[.int .i64 x0, .int .i64 y0, .int .i64 z0, .int .i64 x1, .int .i64 y1, .int .i64 z1, .int .i64 dx, .int .i64 dy, .int .i64 dz] 3)) = W0 at *
  have hwq : w.heap.size < w.heap.size + 1 + 1 + 1 + 1 := by omega
  have hgl : w.heap.size + 1 + 1 + 1 < w.heap.size + 1 + 1 + 1 + 1 := by omega
  generalize w.heap.size + 1 + 1 + 1 + 1 = Bq at *
  generalize w.heap.size + 1 + 1 + 1 = gl at *
  generalize hf9 : (⟨nm, on, ov, kd, sd, x0, y0, z0, x1, y1, z1, ct, dx, dy, dz⟩ : Ft) = f9 at *
  have HF9 := hide hf9
  clear hf9 w0 w1 w2
  go_loopw [4, 6] (fun v s W => ∃ i : Nat, s = .int .i64 (i : Int) ∧ i ≤ 9 ∧ Rst w W Bq gl f9 v (3 + i) ((numL f9).take (3 + i))) (fun _ s _ => 9 - (intOf s).toNat)
  case atStart => exact ⟨0, rfl, by omega, by rw [show (numL f9).take (3 + 0) = [kd, sd, ct] by rw [← unhide HF9]; rfl]; exact unhide HST⟩
  case round =>
    clear HST
    obtain ⟨i, rfl, hi, hst⟩ := hrel
    have HS := hide hst
    have hsz := hst.bq
    obtain ⟨gv, cv, rfl, _⟩ := hst.fb.form (by omega)
    have i0 : (0 : Int) ≤ (i : Int) := Int.natCast_nonneg _
    by_cases h : i < 9
    · have i1 : (i : Int) < 9 := by omega
      have iz : decide ((i : Int) < 9) = true := decide_eq_true i1
      obtain ⟨x, hx, hy⟩ := unhide HNA i h
      obtain ⟨xb0, xb1⟩ := unhide HNI x (List.mem_of_getElem? hx)
      have k0 := hst.li.cell (show ((nineL f9).map (Value.int .i64))[i]? = some (.int .i64 x) by rw [List.getElem?_map, hx]; rfl)
      have k0l := hst.li.lt
      have w8 : IntKind.u8.wrap (x + 100) = x + 100 := u8_in (by omega) (by omega)
      have HY := hide hy
      clear hst hx hy
      go_wp2_with (at_builtin; refine unhide ?_)
      refine hide ?_
      have alo := ba (Below.refl wr.heap.size wr) (.cells (byL [x + 100]).toArray 5)
      refine wpl_append_fb _ rfl _ _ rfl Bq _ (3 + i) _ rfl ((unhide HS).fb.bel alo) (by omega) wr.heap.size 0 1 1 [x + 100] rfl rfl (by omega) (vb.bys (vb_new wr 5 (byL [x + 100]) wr.heap.size rfl)) (by omega) (Nat.le_trans hsz alo.size) ?_
      intro v' w1 hr9 hb9
      have HR9 : Hid (Rst w w1 Bq gl f9 v' (3 + (i + 1)) ((numL f9).take (3 + (i + 1)))) := hide (by
        rw [show 3 + (i + 1) = 3 + i + 1 by omega, take_one (unhide HY)]
        exact ((unhide HS).bel alo).more hwq hgl hr9 hb9)
      clear hr9 hb9 alo
      go_wp2_with fail
      go_roundw
      case rel => exact ⟨i + 1, by simp, by omega, unhide HR9⟩
      case measure => simp only [intOf]; omega
    · have i1 : ¬ (i : Int) < 9 := by omega
      have iz : decide ((i : Int) < 9) = false := decide_eq_false i1
      have e9 : i = 9 := by omega
      subst e9
      rw [List.take_of_length_le (by rw [unhide HNL]; omega)] at hst
      have HS2 := hide hst
      have k0 := hst.bo.cell (m := 0) (by rw [← unhide HF9]; rfl)
      have k1 := hst.bo.cell (m := 1) (by rw [← unhide HF9]; rfl)
      have k2 := hst.bo.cell (m := 2) (by rw [← unhide HF9]; rfl)
      have kl := hst.bo.lt
      have hz := unhide HZ
      have s0 : (0 : Int) ≤ (nm.size : Int) := Int.natCast_nonneg _
      have s1 : (0 : Int) ≤ (on.size : Int) := Int.natCast_nonneg _
      have s2 : (0 : Int) ≤ (ov.size : Int) := Int.natCast_nonneg _
      have u0 : IntKind.u8.wrap (nm.size : Int) = (nm.size : Int) := u8_in s0 (by omega)
      have u1 : IntKind.u8.wrap (on.size : Int) = (on.size : Int) := u8_in s1 (by omega)
      have u2 : IntKind.u8.wrap (ov.size : Int) = (ov.size : Int) := u8_in s2 (by omega)
      clear hst HS HNA HNI
      go_wp2_with (at_builtin; refine unhide ?_)
      refine hide ?_
      have alo := ba (Below.refl wr.heap.size wr) (.cells (byL [(nm.size : Int), (on.size : Int), (ov.size : Int)]).toArray 5)
      refine wpl_append_fb _ rfl _ _ rfl Bq _ (3 + 9) _ rfl ((unhide HS2).fb.bel alo) (by omega) wr.heap.size 0 3 3 [(nm.size : Int), (on.size : Int), (ov.size : Int)] rfl rfl (by omega) (vb.bys (vb_new wr 5 (byL [(nm.size : Int), (on.size : Int), (ov.size : Int)]) wr.heap.size rfl)) (by omega) (Nat.le_trans hsz alo.size) ?_
      intro v3 W3 hr3 hb3
      have hst3 := ((unhide HS2).bel alo).more hwq hgl hr3 hb3
      have HS3 : Hid (Rst w W3 Bq gl f9 v3 15 (numL f9 ++ lenL f9)) := hide (by
        rw [show lenL f9 = [(nm.size : Int), (on.size : Int), (ov.size : Int)] by rw [← unhide HF9]; rfl]
        exact hst3)
      have q0 := hst3.bo.cell (m := 0) (by rw [← unhide HF9]; rfl)
      have q1 := hst3.bo.cell (m := 1) (by rw [← unhide HF9]; rfl)
      have q2 := hst3.bo.cell (m := 2) (by rw [← unhide HF9]; rfl)
      have ql := hst3.bo.lt
      have hsz3 := hst3.bq
      obtain ⟨gv3, cv3, rfl, _⟩ := hst3.fb.form (by omega)
      clear hr3 hb3 hst3 alo k0 k1 k2 kl HS2 u0 u1 u2
      obtain ⟨OB, cpf, ns, HCV, HSN, HNS, hns⟩ : ∃ (OB : World → Obj) (cpf : World → Nat) (ns : Nat), Hid (∀ W : World, (convert 9 22 (.string (nm ++ on ++ ov))).run Try.prog W = .ok (.slice (some ⟨W.heap.size, 0, none⟩) ns (cpf W)) (W.drew.alloc (OB W))) ∧ Hid (∀ W : World, Bys (W.drew.alloc (OB W)) W.heap.size 0 (strL nm ++ strL on ++ strL ov)) ∧ Hid ((strL nm ++ strL on ++ strL ov).length = ns) ∧ (0 < ns ∧ ns ≤ 120) := by
        refine ⟨fun W => .cells (bytesRow (nm ++ on ++ ov) (grownCap W (nm ++ on ++ ov).size 0 5)) 5 ((bytesRow (nm ++ on ++ ov) (grownCap W (nm ++ on ++ ov).size 0 5)).size, (bytesRow (nm ++ on ++ ov) (grownCap W (nm ++ on ++ ov).size 0 5)).size + 1), fun W => grownCap W (nm ++ on ++ ov).size 0 5, (nm ++ on ++ ov).size, hide (fun W => run_bytes_of_string (P := Try.prog) W 9 22 5 _ Try.underlying9 Try.underlying22 Try.underlying5), hide (fun W => ?_), hide ?_, ?_⟩
        · rw [← strL_app, ← strL_app]
          exact str_new W _ _ _
        · rw [← strL_app, ← strL_app, strL_len]
        · rw [ByteArray.size_append, ByteArray.size_append]; omega
      have hcv := unhide HCV W3
      have hbd : Bq ≤ (W3.drew.alloc (OB W3)).heap.size := Nat.le_trans hsz3 (ba (Below.drew (Below.refl W3.heap.size W3)) (OB W3)).size
      have HS4 := hide ((unhide HS3).bel (ba (Below.drew (Below.refl W3.heap.size W3)) (OB W3)))
      have HSN3 := hide (unhide HSN W3)
      clear HCV HSN
      go_wp2_with (at_builtin; refine unhide ?_)
      refine hide ?_
      refine wpl_append_fb _ rfl _ _ rfl Bq _ 15 _ rfl (unhide HS4).fb (by omega) W3.heap.size 0 ns (cpf W3) _ rfl (unhide HNS) hns.1 (unhide HSN3) (by omega) hbd ?_
      intro v5 W5 hr5 hb5
      have hst5 := (unhide HS4).more hwq hgl hr5 hb5
      have hbod : numL f9 ++ lenL f9 ++ (strL nm ++ strL on ++ strL ov) = bodL f9 := by rw [← unhide HF9]; rfl
      rw [hbod] at hst5 hr5
      have hlb := hr5.len
      obtain ⟨nb, hnb⟩ : ∃ nb, 15 + ns = nb := ⟨_, rfl⟩
      rw [hnb] at hst5 hr5 hlb
      obtain ⟨gv5, cv5, rfl, hby5⟩ := hst5.fb.form (by omega)
      have HBY := hide hby5
      have HBE := hide hst5.be
      have HLB := hide hlb
      have hnbb : 15 ≤ nb ∧ nb ≤ 135 := by omega
      have hsz5 := hst5.be.size
      have HTW := hide (fun X => twoM_any (nb : Int) X (by omega) (by omega))
      have HBT := hide (unhide HF).byt
      have HSU := hide (fun X (hX : Bys X gv5 0 (bodL f9)) => sumM_any (some ⟨gv5, 0, none⟩) gv5 0 nb cv5 (bodL f9) X hlb (by omega) hX.slG (unhide HBT))
      have hso := sumS_ok (bodL f9)
      have HT2 := hide (fun X => twoM_any (sumN (bodL f9)) X (by unfold sumN; omega) (by unfold sumN; omega))
      have HSE := hide (sumN_two (bodL f9))
      clear hr5 hb5 hst5 hby5 hlb hbod hcv q0 q1 q2 ql hnb hns HS3 HS4 HSN3 HNS hbd
      generalize sumN (bodL f9) = sn at *
      clear hso
      have alo := ba (Below.refl W5.heap.size W5) (.cells (byL [82]).toArray 5)
      have HA5 := hide alo
      have H82 : Hid (Bys (W5.alloc (.cells (byL [82]).toArray 5)) W5.heap.size 0 [82]) := hide (vb.bys (vb_new W5 5 (byL [82]) W5.heap.size rfl))
      have HB6 := hide ((unhide HBY).bel alo)
      have HE6 := hide (bc (unhide HBE) alo)
      clear alo
      go_wp2_with fail
      refine (unhide HTW _).mono ?_
      rintro e W7 ⟨⟨gt, rfl, _, hvt⟩, hbt⟩
      have H82b := hide ((unhide H82).bel hbt)
      have HB7 := hide ((unhide HB6).bel hbt)
      have HE7 := hide (bc (unhide HE6) hbt)
      have HVT := hide (vb.bys hvt)
      have hs57 : W5.heap.size ≤ W7.heap.size := (bc (unhide HA5) hbt).size
      have hsz7 : W7.heap.size ≤ W7.heap.size := Nat.le_refl _
      clear hbt hvt
      go_wp2_with (at_builtin; refine unhide ?_)
      refine hide ?_
      refine wpl_append_fb _ rfl _ _ rfl W7.heap.size _ 1 [82] rfl (.inr ⟨W5.heap.size, rfl, unhide H82b, rfl⟩) (by omega) gt 0 2 2 (two (nb : Int)) rfl rfl (by omega) (unhide HVT) (by omega) hsz7 ?_
      intro v8 W8 hr8 hb8
      have HB8 := hide ((unhide HB7).bel hb8)
      have HX8 := hide hb8
      have HE8 := hide (bc (unhide HE7) hb8)
      have HR8 := hide hr8
      have hsz8 := hb8.size
      obtain ⟨u8_, c8, rfl, _⟩ := own_form hr8
      clear hr8 hb8
      go_wp2_with (at_builtin; refine unhide ?_)
      refine hide ?_
      refine wpl_append_fb _ rfl _ _ rfl W7.heap.size _ (1 + 2) _ rfl (.inl (unhide HR8)) (by omega) gv5 0 nb cv5 (bodL f9) rfl (unhide HLB) (by omega) (unhide HB8) (by omega) hsz8 ?_
      intro v9 W9 hr9 hb9
      have hb79 := (unhide HX8).trans hb9
      have HB9 := hide ((unhide HB7).bel hb79)
      have HE9 := hide (bc (unhide HE7) hb79)
      have HR9 := hide hr9
      have HX9 := hide hb79
      have hsz9 := hb79.size
      obtain ⟨u9_, c9, rfl, _⟩ := own_form hr9
      clear hr9 hb9 hb79
      go_wp2_with fail
      refine (unhide HSU _ (unhide HB9)).mono ?_
      rintro e Wa ⟨rfl, hba⟩
      have HRa := hide ((unhide HR9).bel hba)
      have HXa := hide ((unhide HX9).trans (hba.mono hsz9))
      clear hba
      go_wp2_with fail
      refine (unhide HT2 _).mono ?_
      rintro e Wb ⟨⟨gw, rfl, _, hvw⟩, hbw⟩
      have HRw := hide ((unhide HRa).bel hbw)
      have HXw := hide ((unhide HXa).trans (hbw.mono (unhide HXa).size))
      have hvw2 := vb.bys hvw
      rw [unhide HSE] at hvw2
      have HVW := hide hvw2
      have hszw := ((unhide HXa).trans (hbw.mono (unhide HXa).size)).size
      clear hbw hvw hvw2
      go_wp2_with (at_builtin; refine unhide ?_)
      refine hide ?_
      refine wpl_append_fb _ rfl _ _ rfl W7.heap.size _ (1 + 2 + nb) _ rfl (.inl (unhide HRw)) (by omega) gw 0 2 2 _ rfl rfl (by omega) (unhide HVW) (by omega) hszw ?_
      intro vc Wc hrc hbc
      have erec : [82] ++ two (nb : Int) ++ bodL f9 ++ [(sumS (bodL f9)).2, (sumS (bodL f9)).1] = recL f9 := by unfold recL; rw [unhide HLB]
      rw [erec] at hrc
      have hlr := hrc.len
      obtain ⟨gc, cc, rfl, _⟩ := (show Fb Wc W7.heap.size vc _ _ from .inl hrc).form (by omega)
      have HRC := hide (hrc.mono (show w.heap.size ≤ W7.heap.size by omega))
      have HEC := hide (bc (unhide HE7) ((unhide HXw).trans hbc))
      have HLR := hide hlr
      clear hrc hbc hlr erec
      go_wp2_with fail
      go_ret
      rw [unhide HF9, unhide HLR]
      exact ⟨⟨gc, cc, rfl, unhide HRC⟩, unhide HEC⟩
end Go.Proofs.Ytibcgimggcdllaa
