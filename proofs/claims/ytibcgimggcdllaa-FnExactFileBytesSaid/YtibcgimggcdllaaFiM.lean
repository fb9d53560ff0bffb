/-
  The model's file of features, at every list.
-/
import Derived.Test.YtibcgimggcdllaaFiRe
import Derived.Test.YtibcgimggcdllaaFiP
namespace Go.Proofs.Ytibcgimggcdllaa
open Go.ChangeShapes Go.WideShapes Go.ChangeAt Go.RowKit
set_option linter.unusedVariables false
set_option linter.unusedSimpArgs false

theorem nm_pos {f : Ft} (h : ftr f = true) : 0 < f.nm.size := by
  unfold ftr at h
  simp only [Bool.and_eq_true] at h
  have := h.1.1.1
  unfold nameB at this
  rw [decide_eq_true_eq] at this
  exact this.1
set_option maxRecDepth 100000 in
set_option maxHeartbeats 8000000 in
theorem fbM_any (u : Option Addr) (p po n cu : Nat) (fs : List Ft) (w : World) (hl : fs.length = n) (hn : n ≤ 1048576) (hcu : n ≤ cu) (hs : ∀ f ∈ fs, f.nm.size ≤ maxLen ∧ f.on.size ≤ maxLen ∧ f.ov.size ≤ maxLen) (hu : SlG ftc 15 w u p po fs) :
    Calls Try.prog 10 #[.slice u n cu] w fun e w' => (∃ v c ab N, e = .returned (.tuple #[v, .int .i64 c]) ∧ Chk fs c ab ∧ Rb w' w.heap.size v N (fbL fs c)) ∧ Below w.heap.size w w' := by
  have HO := hide (checkM_any u p po n cu fs w hl hn hcu hs hu)
  have HU := hide (fun X (hX : Below w.heap.size w X) => hu.bel hX)
  have HL := hide hl
  have n0 : (0 : Int) ≤ (n : Int) := Int.natCast_nonneg _
  clear hu hl hs
  go_enter Try.func10, Try.ntmps10
  go_wp2_with fail
  refine (unhide HO).mono ?_
  rintro e W1 ⟨⟨v1, c, v3, ab, rfl, hck, hr1, hr3⟩, hb1⟩
  have HB1 := hide hb1
  have HCK := hide hck
  clear hr1 hr3 hb1
  by_cases hc : c = 0
  rotate_left
  · have cz : (c != 0) = true := by simp [hc]
    have HFB : Hid (fbL fs c = []) := hide (if_neg hc)
    have HBB := hide (ba (unhide HB1) (.cells #[] 5))
    have hszq := (unhide HB1).size
    clear hck
    go_wp2_with fail
    refine bodyPost_ret (v := .tuple #[.slice (some ⟨W1.heap.size, 0, none⟩) 0 0, .int .i64 c]) (by simp [results, Try.results10, go_sem]) rfl ⟨⟨_, c, ab, 0, rfl, unhide HCK, ?_⟩, unhide HBB⟩
    rw [unhide HFB]
    exact own_made W1 5 w.heap.size 1 hszq _ rfl
  subst hc
  obtain ⟨hfine, rfl⟩ := hck.zero
  have HFR : Hid (∀ f ∈ fs, Frs f) := hide (fun f hf => frs_of (hfine.right f hf))
  have HNP : Hid (∀ f ∈ fs, 0 < f.nm.size) := hide (fun f hf => nm_pos (hfine.right f hf))
  have hn30 : n ≤ 30 := by rw [← unhide HL]; exact hfine.len
  have cz : ((0 : Int) != 0) = false := by simp
  clear hck hfine
  have HV1 := hide (head_new W1)
  have HB2 := hide (ba (unhide HB1) (.cells #[.int .u8 80, .int .u8 65, .int .u8 82, .int .u8 84, .int .u8 1] 5 (5, 6)))
  have hsz1 := (unhide HB1).size
  have hcv := Lib.run_convert_bytes_const (P := Try.prog) W1 22 5 #[.int .u8 80, .int .u8 65, .int .u8 82, .int .u8 84, .int .u8 1] 5 5 Try.underlying22 Try.underlying5
  go_wp2_with fail
  clear hcv
  go_loopw [7, 8] (fun v s W => ∃ (i N : Nat), s = .int .i64 (i : Int) ∧ i ≤ n ∧ Fb W w.heap.size v N (headL ++ recs (fs.take i)) ∧ Below w.heap.size w W) (fun _ s _ => n - (intOf s).toNat)
  case atStart => exact ⟨0, 5, rfl, Nat.zero_le _, .inr ⟨W1.heap.size, rfl, by simpa [recs] using unhide HV1, by simp [recs, headL]⟩, unhide HB2⟩
  case round =>
    clear HV1 HB2
    obtain ⟨i, N, rfl, hi, hfb, hw⟩ := hrel
    have HFB := hide hfb
    have HW := hide hw
    have hsz := hw.size
    have hlen := hfb.len
    rw [List.length_append] at hlen
    have hNN : N ≠ 0 ∧ N ≤ 10000 := by
      have := recs_len (fs := fs.take i) (fun f hf => unhide HFR f (List.mem_of_mem_take hf))
      have h2 : (fs.take i).length ≤ 30 := by rw [List.length_take, unhide HL]; omega
      have h3 : headL.length = 5 := rfl
      omega
    obtain ⟨g0, c0, rfl, hby0⟩ := hfb.form hNN.1
    have i0 : (0 : Int) ≤ (i : Int) := Int.natCast_nonneg _
    clear hlen hfb hby0
    by_cases h : i < n
    · have i1 : (i : Int) < (n : Int) := by omega
      have iz : decide ((i : Int) < (n : Int)) = true := decide_eq_true i1
      obtain ⟨f, hx⟩ := get_some (unhide HL) h
      obtain ⟨rfl, k0, k1, k2, k3, k4, k5, k6, k7, k8, k9, k10, k11, k12, k13, k14⟩ := (unhide HU _ hw).at15 hx
      have hmem := List.mem_of_getElem? hx
      have HRE := hide (fun X => rec_any f X (unhide HFR f hmem) (unhide HNP f hmem))
      unfold ftv at HRE
      have HRT := hide (recs_take hx)
      have hrl := recL_len (unhide HFR f hmem)
      obtain ⟨rl, hrl0⟩ : ∃ rl, recL f = rl := ⟨_, rfl⟩
      rw [hrl0] at HRE HRT hrl
      have hrp : 0 < rl.length := by rw [← hrl0]; simp [recL]
      obtain ⟨nr, hnr⟩ : ∃ nr, rl.length = nr := ⟨_, rfl⟩
      rw [hnr] at HRE hrl hrp
      have HNR := hide hnr
      clear hx hw hmem hrl0 hnr
      go_wp2_with fail
      clear k0 k1 k2 k3 k4 k5 k6 k7 k8 k9 k10 k11 k12 k13 k14
      refine (unhide HRE _).mono ?_
      rintro e Wb ⟨⟨gb, cb, rfl, hrb⟩, hbb⟩
      have HFb := hide ((unhide HFB).bel hbb)
      have HWb := hide (bc (unhide HW) hbb)
      have HBb := hide (hrb.bys (by omega))
      have hszb := (bc (unhide HW) hbb).size
      clear hbb hrb
      go_wp2_with (at_builtin; refine unhide ?_)
      refine hide ?_
      refine wpl_append_fb _ rfl _ _ rfl w.heap.size _ N _ rfl (unhide HFb) hNN.1 gb 0 nr cb rl rfl (unhide HNR) hrp (unhide HBb) (by omega) hszb ?_
      intro v9 W9 hr9 hb9
      rw [List.append_assoc, ← unhide HRT] at hr9
      have HR9 := hide hr9
      have HB9 := hide ((unhide HWb).trans hb9)
      clear hr9 hb9
      go_wp2_with fail
      go_roundw
      case rel => exact ⟨i + 1, N + nr, by simp, h, .inl (unhide HR9), unhide HB9⟩
      case measure => simp only [intOf]; omega
    · have i1 : ¬ (i : Int) < (n : Int) := by omega
      have iz : decide ((i : Int) < (n : Int)) = false := decide_eq_false i1
      have en : i = n := by omega
      subst en
      have HTW := hide (fun X => twoM_any (i : Int) X (by omega) (by omega))
      have HFE : Hid (headL ++ recs (fs.take i) ++ [69] ++ two (i : Int) = fbL fs 0) := hide (by
        have e1 : fs.take i = fs := List.take_of_length_le (by rw [unhide HL]; omega)
        rw [e1]
        unfold fbL fileL
        rw [if_pos rfl, unhide HL]
        simp)
      clear hw
      go_wp2_with (at_builtin; refine unhide ?_)
      refine hide ?_
      have alo := ba (Below.refl wr.heap.size wr) (.cells (byL [69]).toArray 5)
      refine wpl_append_fb _ rfl _ _ rfl w.heap.size _ N _ rfl ((unhide HFB).bel alo) hNN.1 wr.heap.size 0 1 1 [69] rfl rfl (by omega) (vb.bys (vb_new wr 5 (byL [69]) wr.heap.size rfl)) (by omega) (Nat.le_trans hsz alo.size) ?_
      intro v8 W8 hr8 hb8
      have HR8 := hide hr8
      have HB8 := hide ((bc (unhide HW) alo).trans hb8)
      obtain ⟨u8_, c8, rfl, _⟩ := own_form hr8
      clear hr8 hb8 alo
      go_wp2_with fail
      refine (unhide HTW _).mono ?_
      rintro e Wm ⟨⟨gm, rfl, _, hvm⟩, hbm⟩
      have HRm := hide ((unhide HR8).bel hbm)
      have HWm := hide (bc (unhide HB8) hbm)
      have HVM := hide (vb.bys hvm)
      have hszm := (bc (unhide HB8) hbm).size
      clear hbm hvm
      go_wp2_with (at_builtin; refine unhide ?_)
      refine hide ?_
      refine wpl_append_fb _ rfl _ _ rfl w.heap.size _ (N + 1) _ rfl (.inl (unhide HRm)) (by omega) gm 0 2 2 (two (i : Int)) rfl rfl (by omega) (unhide HVM) (by omega) hszm ?_
      intro v' w1 hr9 hb9
      rw [unhide HFE] at hr9
      have HR9 := hide hr9
      have HB9 := hide ((unhide HWm).trans hb9)
      obtain ⟨u9, c9, rfl, _⟩ := own_form hr9
      clear hr9 hb9
      go_wp2_with fail
      refine bodyPost_ret (v := .tuple #[.slice u9 (N + 1 + 2) c9, .int .i64 0]) (by simp [results, Try.results10, go_sem]) rfl ⟨⟨_, 0, [], _, rfl, unhide HCK, unhide HR9⟩, unhide HB9⟩
end Go.Proofs.Ytibcgimggcdllaa
