/-
  The program's NestBest.
-/
import Derived.Test.YtoidhlackoigkaaNbOr
import Derived.Test.YtoidhlackoigkaaNsNq
import Derived.Laws.EntriesVeiled
namespace Go.Proofs.Ytoidhlackoigkaa
open Go.ChangeShapes Go.WideShapes Go.ChangeAt Go.RowKit
set_option linter.unusedVariables false
set_option linter.unusedSimpArgs false

set_option maxHeartbeats 8000000 in
set_option maxRecDepth 100000 in
theorem bnP_any (Wd : Int) (u : Option Addr) (p po n c : Nat) (P : List Pl) (w : World) (hl : P.length = n) (hu : Pls w u p po P) (hc : nsCode Wd P = 0) :
    Calls Try.prog 27 #[.int .i64 Wd, .slice u n c] w fun e w' => (∃ u' c' bb bo L, e = .returned (.agg #[.int .i64 Wd, .slice u' n c']) ∧ Lds w' u' bb bo L ∧ Near L ∧ L.length = n ∧ bst Wd none (ol Wd P n []) = some L) ∧ Below w.heap.size w w' := by
  obtain ⟨hW, hlen, hpl, hfit⟩ := code_good hc
  rw [hl] at hlen
  have HL := hide hl
  have HU := hide (fun X (hX : Below w.heap.size w X) => hu.bel hX)
  have HPW : Hid (P ≠ [] → p < w.heap.size) := hide (fun h => (hu h).2.1)
  have HNE := hide (bst_ne (Wd := Wd) (ol_ne hfit n 0 (by omega)))
  have HOR := hide (fun (g2 g3 g5 g6 g7 : Nat) X (n7 : g7 ≠ g5) henv h7 hps => order_any Wd P u n c p po g2 g3 g5 g6 g7 hW hl (by omega) hpl n7 n 0 [] none none 0 0 0 X (by omega) (fun k hk => by cases hk) (by simp) ⟨fun h => absurd rfl h, rfl, Nat.le_refl _, fun h => absurd rfl h⟩ (fun _ => rfl) (fun _ => rfl) henv h7 hps)
  clear hl hu hc hpl hfit hlen
  go_enter Try.func27, Try.ntmps27
  go_wp2_with fail
  generalize hX : ((((((w.alloc (.cells #[.int .i64 Wd] 3)).alloc (.cells #[.slice u n c] 23)).alloc (.cells #[.int .i64 0, .slice none 0 0] 47)).alloc (.cells #[.pointer none] 86)).alloc (.cells #[.func (.func 47) #[] #[.pointer (some ⟨w.heap.size + 1 + 1 + 1, 0, none⟩), .pointer (some ⟨w.heap.size + 1, 0, none⟩), .pointer (some ⟨w.heap.size, 0, none⟩), .pointer (some ⟨w.heap.size + 1 + 1 + 1 + 1, 0, none⟩)]] 87)).alloc (.cells #[.func (.func 48) #[] #[.pointer (some ⟨w.heap.size + 1, 0, none⟩), .pointer (some ⟨w.heap.size + 1 + 1 + 1 + 1, 0, none⟩), .pointer (some ⟨w.heap.size, 0, none⟩), .pointer (some ⟨w.heap.size + 1 + 1 + 1 + 1 + 1, 0, none⟩)]] 88)) = X
  have HBX : Hid (Below w.heap.size w X) := hide (by rw [← hX]; exact ba (ba (ba (ba (ba (ba (Below.refl _ _) _) _) _) _) _) _)
  have v2 : vb X w.heap.size 3 [.int .i64 Wd] := by rw [← hX]; exact (vb_new w 3 [.int .i64 Wd] _ rfl).bel (ba (ba (ba (ba (ba (Below.refl _ _) _) _) _) _) _)
  have v3 : vb X (w.heap.size + 1) 23 [.slice u n c] := by rw [← hX]; exact (vb_new _ 23 [.slice u n c] _ (by simp)).bel (ba (ba (ba (ba (Below.refl _ _) _) _) _) _)
  have v4 : vb X (w.heap.size + 1 + 1) 47 [.int .i64 0, .slice none 0 0] := by rw [← hX]; exact (vb_new _ 47 [.int .i64 0, .slice none 0 0] _ (by simp)).bel (ba (ba (ba (Below.refl _ _) _) _) _)
  have v5 : vb X (w.heap.size + 1 + 1 + 1) 86 [.pointer none] := by rw [← hX]; exact (vb_new _ 86 [.pointer none] _ (by simp)).bel (ba (ba (Below.refl _ _) _) _)
  have v6 : vb X (w.heap.size + 1 + 1 + 1 + 1) 87 [fnV w.heap.size (w.heap.size + 1) (w.heap.size + 1 + 1 + 1) (w.heap.size + 1 + 1 + 1 + 1)] := by rw [← hX]; exact (vb_new _ 87 [fnV w.heap.size (w.heap.size + 1) (w.heap.size + 1 + 1 + 1) (w.heap.size + 1 + 1 + 1 + 1)] _ (by simp)).bel (ba (Below.refl _ _) _)
  have v7 : vb X (w.heap.size + 1 + 1 + 1 + 1 + 1) 88 [fnO w.heap.size (w.heap.size + 1) (w.heap.size + 1 + 1 + 1 + 1) (w.heap.size + 1 + 1 + 1 + 1 + 1)] := by rw [← hX]; exact vb_new _ 88 [fnO w.heap.size (w.heap.size + 1) (w.heap.size + 1 + 1 + 1 + 1) (w.heap.size + 1 + 1 + 1 + 1 + 1)] _ (by simp)
  have HV4 := hide v4
  clear hX
  refine (unhide HOR _ _ _ _ _ X (by omega) ⟨v2, v3, v6, by omega, by omega, by omega, unhide HU X (unhide HBX), fun h => by have := unhide HPW h; omega⟩ v7 v5).mono ?_
  rintro e W2 ⟨rfl, hps, hfr⟩
  obtain ⟨L, hL⟩ := unhide HNE
  have hL' : bst Wd none (ol Wd P n []) = some L := hL
  rw [hL'] at hps
  have hLn : L.length = n := by have h9 := hL'; rw [← unhide HL] at h9; rw [best_len h9]; exact unhide HL
  obtain ⟨nb, u', c', bb, bo, h5, hn5, hnn, hnep, _⟩ := hps
  rw [hLn] at hn5 hnep
  have v4' := hfr.vb (unhide HV4) (by omega) (by omega)
  have HBW : Hid (Below w.heap.size w W2) := hide ⟨hfr.os.trans (unhide HBX).os, hfr.tape.trans (unhide HBX).tape, hfr.output.trans (unhide HBX).output, Nat.le_trans (unhide HBX).size hfr.size, fun k hk => (hfr.block k (Nat.lt_of_lt_of_le hk (unhide HBX).size) (by omega) (by omega)).trans ((unhide HBX).block k hk)⟩
  have hnb4 : w.heap.size + 1 + 1 ≠ nb ∨ True := Or.inr trivial
  have HNP := hide hnep
  have HLL := hide hL'
  have HLN := hide hLn
  have q5 := h5.cell (m := 0) rfl
  have q50 := h5.lt
  have r0 := hn5.cell (m := 0) rfl
  have r1 := hn5.cell (m := 1) rfl
  have rl := hn5.lt
  have z0 := v4'.cell (m := 0) rfl
  have z1 := v4'.cell (m := 1) rfl
  have zl := v4'.lt
  have zf := v4'.frozen
  have HV4' := hide v4'
  clear hfr h5 hn5 hnep v2 v3 v4 v5 v6 v7 v4' hL hL' hLn HOR HNE hnb4
  go_wp2_with fail
  refine bodyPost_ret (v := .agg #[.int .i64 Wd, .slice u' n c']) (by simp [results, Try.results27, go_sem, z0, z1, zl]) rfl ?_
  have hb2 : Below w.heap.size w ((W2.setCell ⟨w.heap.size + 1 + 1, 0, none⟩ (.int .i64 Wd)).setCell ⟨w.heap.size + 1 + 1, 1, none⟩ (.slice u' n c')) := ((unhide HBW).setCell (by show w.heap.size ≤ w.heap.size + 1 + 1; omega) _).setCell (by show w.heap.size ≤ w.heap.size + 1 + 1; omega) _
  refine ⟨⟨u', c', bb, bo, L, rfl, fun h0 => ?_, (unhide HNP).near, unhide HLN, unhide HLL⟩, hb2⟩
  obtain ⟨a1, a2, a3⟩ := (unhide HNP).ld h0
  have hbb : bb ≠ w.heap.size + 1 + 1 := by
    intro e
    subst e
    obtain ⟨l, hl⟩ : ∃ l, L[0]? = some l := by
      cases L with
      | nil => exact absurd rfl h0
      | cons l L => exact ⟨l, rfl⟩
    have h9 := a3 0 l hl 5 _ rfl
    simp only [World.cell?] at h9
    rw [show W2.heap[w.heap.size + 1 + 1]? = some (.cells #[.int .i64 0, .slice none 0 0] 47) from unhide HV4'] at h9
    simp at h9
  refine ⟨a1, by simpa using a2, fun j l hj q v hv => ?_⟩
  rw [World.cell?_of_block (w := W2) (a := ⟨bb, _, none⟩)]
  · exact a3 j l hj q v hv
  · exact (Below.heap_setCell _ _ _ _ hbb).trans (Below.heap_setCell _ _ _ _ hbb)
theorem nbP_bad (Wd : Int) (u : Option Addr) (p po n c : Nat) (P : List Pl) (w : World) (hl : P.length = n) (hn : n ≤ 9223372036854775807) (hu : Pls w u p po P) (hc : nsCode Wd P ≠ 0) :
    Calls Try.prog 9 #[.int .i64 Wd, .slice u n c] w fun e w' => e = .returned (.tuple #[.slice none 0 0, .int .i64 0, .int .i64 (nsCode Wd P)]) ∧ Below w.heap.size w w' := by
  have HC := hide (ncP_any Wd u p po n c P w hl hn hu)
  generalize nsCode Wd P = k at *
  have kz : (k != 0) = true := by simp [hc]
  have ky : (k == 0) = false := by simp [hc]
  clear hl hu
  go_enter Try.func9, Try.ntmps9
  go_wp2_with fail
  refine (unhide HC).mono ?_
  rintro e w' ⟨rfl, hb⟩
  have HB := hide hb
  clear hb
  go_wp2_with fail
  refine bodyPost_ret (v := .tuple #[.slice none 0 0, .int .i64 0, .int .i64 k]) (by simp [results, Try.results9, go_sem]) rfl ?_
  exact ⟨rfl, unhide HB⟩
theorem nbP_many (Wd : Int) (u : Option Addr) (p po n c : Nat) (P : List Pl) (w : World) (hl : P.length = n) (hn : n ≤ 9223372036854775807) (hu : Pls w u p po P) (hc : nsCode Wd P = 0) (h5 : 5 < n) :
    Calls Try.prog 9 #[.int .i64 Wd, .slice u n c] w fun e w' => e = .returned (.tuple #[.slice none 0 0, .int .i64 0, .int .i64 10]) ∧ Below w.heap.size w w' := by
  have HC := hide (ncP_any Wd u p po n c P w hl hn hu)
  rw [hc] at HC
  have t5 : decide ((5 : Int) < (n : Int)) = true := decide_eq_true (by omega)
  clear hl hu hc
  go_enter Try.func9, Try.ntmps9
  go_wp2_with fail
  refine (unhide HC).mono ?_
  rintro e w' ⟨rfl, hb⟩
  have HB := hide hb
  clear hb
  go_wp2_with fail
  refine bodyPost_ret (v := .tuple #[.slice none 0 0, .int .i64 0, .int .i64 10]) (by simp [results, Try.results9, go_sem]) rfl ?_
  exact ⟨rfl, unhide HB⟩
set_option maxHeartbeats 8000000 in
theorem nbP_good (Wd : Int) (u : Option Addr) (p po n c : Nat) (P : List Pl) (w : World) (hl : P.length = n) (hu : Pls w u p po P) (hc : nsCode Wd P = 0) (h5 : n ≤ 5) :
    Calls Try.prog 9 #[.int .i64 Wd, .slice u n c] w fun e w' => (∃ g L, e = .returned (.tuple #[.slice (some ⟨g, 0, none⟩) n n, .int .i64 (hgtOf L), .int .i64 0]) ∧ vb w' g 61 (flatG spC L) ∧ w.heap.size ≤ g ∧ L.length = n ∧ bst Wd none (ol Wd P n []) = some L) ∧ Below w.heap.size w w' := by
  have HC := hide (ncP_any Wd u p po n c P w hl (by omega) hu)
  rw [hc] at HC
  have HBN := hide (fun X (hX : Below w.heap.size w X) => bnP_any Wd u p po n c P X hl (hu.bel hX) hc)
  have t5 : decide ((5 : Int) < (n : Int)) = false := decide_eq_false (by omega)
  clear hl hu hc
  go_enter Try.func9, Try.ntmps9
  go_wp2_with fail
  refine (unhide HC).mono ?_
  rintro e w1 ⟨rfl, hb1⟩
  have HB1 := hide hb1
  clear hb1
  go_wp2_with fail
  refine (unhide HBN _ (unhide HB1)).mono ?_
  rintro e W2 ⟨⟨u', c', b', po', L, rfl, hld, hnr, hln, hbs⟩, hb2⟩
  have HB2 := hide (bc (unhide HB1) hb2)
  have HSP := hide (fun X (hX : Below W2.heap.size W2 X) => spP_any Wd u' b' po' n c' L X hln (by omega) (hld.bel hX))
  have HHE := hide (fun X (hX : Below W2.heap.size W2 X) => heP_any Wd u' b' po' n c' L X hln (by omega) (hld.bel hX) hnr)
  have HLN := hide hln
  have HBS := hide hbs
  have szw := (unhide HB2).size
  clear hb2 hld hnr hln hbs HBN HC
  go_wp2_with fail
  have HV := hide (vb_new W2 47 [.int .i64 Wd, .slice u' n c'] W2.heap.size rfl)
  have HBA := hide (ba (Below.refl W2.heap.size W2) (.cells #[.int .i64 Wd, .slice u' n c'] 47))
  have e0 := (unhide HV).cell (m := 0) rfl
  have e1 := (unhide HV).cell (m := 1) rfl
  have el := (unhide HV).lt
  generalize hX : W2.alloc (.cells #[.int .i64 Wd, .slice u' n c'] 47) = X at *
  generalize hg8 : W2.heap.size = g8 at *
  have HSX := hide (unhide HBA).size
  clear hX HV
  go_region_held3 (fun wx => wx.cell? ⟨g8, 0, none⟩ = some (.int .i64 Wd) ∧ wx.cell? ⟨g8, 1, none⟩ = some (.slice u' n c'))
    (simp (maxDischargeDepth := 12) [go_sem, le1, lt1, *])
    (first
    | (go_at_call 24; refine (unhide HSP _ (by first | exact unhide HBA | (repeat (first | exact unhide HBA | refine Below.drew ?_)))).mono ?_; rintro e w' ⟨⟨g, rfl, hv, hg⟩, hb⟩; have HVG := hide hv; have HGG := hide hg; have HB24 := hide hb; have y0 := keep1 hb (b := g8) (o := 0) (v := .int .i64 Wd) (by simp (maxDischargeDepth := 12) [go_sem, le1, lt1, *]); have y1 := keep1 hb (b := g8) (o := 1) (v := .slice u' n c') (by simp (maxDischargeDepth := 12) [go_sem, le1, lt1, *]); clear hb hv hg)
    | (go_at_call 25; refine (unhide HHE _ (by have h9 := unhide HB24; refine (unhide HBA).drew.trans (h9.mono ?_); have h7 := unhide HSX; show g8 ≤ X.heap.size; omega)).mono ?_; rintro e w' ⟨rfl, hb⟩; have HBX := hide hb; have y0' := keep1 hb (b := g8) (o := 0) (v := .int .i64 Wd) (by simp (maxDischargeDepth := 12) [go_sem, le1, lt1, *]); have y1' := keep1 hb (b := g8) (o := 1) (v := .slice u' n c') (by simp (maxDischargeDepth := 12) [go_sem, le1, lt1, *]); clear hb))
  all_goals
    have HVH := hide ((unhide HVG).bel (unhide HBX))
    go_wp2_with fail
    refine bodyPost_ret (v := .tuple #[.slice (some ⟨g, 0, none⟩) n n, .int .i64 (hgtOf L), .int .i64 0]) (by simp [results, Try.results9, go_sem]) rfl ?_
    have hA : Below g8 W2 X.drew := (unhide HBA).drew
    have hB : Below g8 W2 _ := hA.trans ((unhide HB24).mono (by have h7 := unhide HSX; show g8 ≤ X.heap.size; omega))
    have hC : Below g8 W2 _ := hB.trans ((unhide HBX).mono (by have := (unhide HB24).size; have := unhide HSX; simp at *; omega))
    refine ⟨⟨g, L, rfl, unhide HVH, ?_, unhide HLN, unhide HBS⟩, (unhide HB2).trans (hC.mono szw)⟩
    have h8 := unhide HGG
    have h9 := unhide HSX
    simp at h8
    omega
end Go.Proofs.Ytoidhlackoigkaa
