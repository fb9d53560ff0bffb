/-
  The model's order of features.
-/
import Derived.Test.YtbenhicdhiichaaCkM
import Derived.Test.YtbenhicdhiichaaOrM
namespace Go.Proofs.Ytbenhicdhiichaa
open Go.ChangeShapes Go.WideShapes Go.ChangeAt Go.RowKit
set_option linter.unusedVariables false
set_option linter.unusedSimpArgs false

structure Fine (fs : List Ft) : Prop where
  len : fs.length ≤ 30
  right : ∀ f ∈ fs, ftr f = true
  names : ∀ f ∈ fs, wrg fs f = none
  once : twi fs = none
  all : (ord (nms fs)).length = fs.length
  one : Oneful (nms fs)
theorem nms_len (fs : List Ft) : (nms fs).length = fs.length := by simp [nms]
theorem Chk.zero {fs : List Ft} {ab : List ByteArray} (h : Chk fs 0 ab) : Fine fs ∧ ab = [] := by
  unfold Chk at h
  split at h
  · cases h.1
  rename_i e1
  split at h
  · cases h.1
  rename_i e2
  split at h
  · cases h.1
  rename_i e3
  split at h
  · cases h.1
  rename_i e4
  split at h
  · cases h.1
  rename_i e5
  obtain ⟨b, hb, rfl, hc⟩ := h
  have hb0 : b = [] := by
    by_cases e : b = []
    · exact e
    · rw [if_neg e] at hc; cases hc
  have hr : ∀ f ∈ fs, ftr f = true := fun f hf => by simpa using find_not e3 hf
  have hw : ∀ f ∈ fs, wrg fs f = none := fun f hf => by simpa using find_not e5 hf
  have ho := nms_one hr hw
  refine ⟨⟨by omega, hr, hw, e4, ?_, ho⟩, by rw [hb0]; rfl⟩
  have := (ord_all ho (by rw [nms_len]; exact hb)).1 hb0
  rw [nms_len] at this
  exact this
def nmOf (fs : List Ft) (i : Nat) : ByteArray := (fs.getD i ft0).nm
/-- the names in the order in which features are done -/
def odN (fs : List Ft) (c : Int) : List ByteArray := if c = 0 then (ord (nms fs)).map (nmOf fs) else []
theorem strs_take {fs : List Ft} {l : List Nat} {j y : Nat} (h : l[j]? = some y) : strs ((l.take (j + 1)).map (nmOf fs)) = strs ((l.take j).map (nmOf fs)) ++ strs [nmOf fs y] := by
  rw [List.take_add_one, h]
  simp [strs]
set_option maxRecDepth 100000 in
set_option maxHeartbeats 4000000 in
theorem orderOfM_any (u : Option Addr) (p po n cu : Nat) (fs : List Ft) (w : World) (hl : fs.length = n) (hn : n ≤ 1048576) (hcu : n ≤ cu) (hs : ∀ f ∈ fs, f.nm.size ≤ maxLen ∧ f.on.size ≤ maxLen ∧ f.ov.size ≤ maxLen) (hu : SlG ftc 15 w u p po fs) :
    Calls Try.prog 6 #[.slice u n cu] w fun e w' => (∃ v1 c v3 ab, e = .returned (.tuple #[v1, .int .i64 c, v3]) ∧ Chk fs c ab ∧ SRow w' w.heap.size v1 (odN fs c) ∧ SRow w' w.heap.size v3 ab) ∧ Below w.heap.size w w' := by
  obtain ⟨iT, ht, hx0, hx1, hx2⟩ := info_parts info9
  have HCM := hide (checkM_any u p po n cu fs w hl hn hcu hs hu)
  have HU := hide hu
  have HL := hide hl
  clear hu hl hs
  go_enter Try.func6, Try.ntmps6
  go_wp2_with fail
  refine (unhide HCM).mono ?_
  rintro e W1 ⟨⟨v1, c, v3, ab, rfl, hck, hsr, hnm⟩, hb⟩
  have HCK := hide hck
  have HSR := hide hsr
  have HB := hide hb
  obtain ⟨ua, ca, rfl, _⟩ := own_form hsr
  clear hsr HCM
  by_cases hc : c = 0
  · subst hc
    obtain ⟨hfine, rfl⟩ := hck.zero
    have HFI := hide hfine
    obtain ⟨uN, cN, rfl, hna⟩ := hnm rfl
    rw [nms_len, unhide HL]
    have HOM := hide (orderM_any uN n cN (nms fs) W1 (by rw [nms_len]; exact unhide HL) (by have := hfine.len; rw [unhide HL] at this; omega) hna (fun l h => ⟨by have := hfine.one.one l h; omega, by have := hfine.one.lt l h; rw [nms_len, unhide HL] at this; exact this⟩) (by rw [nms_len]; exact hfine.all))
    clear hck hnm hb hna hfine
    go_wp2_with fail
    refine (unhide HOM).mono ?_
    rintro e W2 ⟨vo, rfl, hrow, hb2⟩
    obtain ⟨uo, co, rfl, hfo⟩ := hrow.form
    have hlo : (ord (nms fs)).length = n := by rw [(unhide HFI).all]; exact unhide HL
    have hin : Inn W2 (.slice uo n co) (ord (nms fs)) := by
      have h2 := hrow
      rw [← hlo] at h2
      have := h2.inn
      rw [hlo] at this
      exact this
    have HIN := hide hin
    have HB2 := hide (bc (unhide HB) hb2)
    have HSR2 := hide ((unhide HSR).bel hb2)
    have hlt : ∀ x ∈ ord (nms fs), x < n := by have := wo_lt (nms fs) (nms fs).length; rw [nms_len, unhide HL] at this; unfold ord; rw [nms_len, unhide HL]; exact this
    have HLT := hide hlt
    have HLO := hide hlo
    have hn30 : n ≤ 30 := by have := (unhide HFI).len; rw [unhide HL] at this; exact this
    have hod : odN fs 0 = (ord (nms fs)).map (nmOf fs) := if_pos rfl
    have HOD := hide hod
    clear hrow hfo hin hb2 hlt hlo HOM hod
    generalize ord (nms fs) = b at *
    have HR3 := hide (own_made W2 9 W2.heap.size 1 (Nat.le_refl _) _ rfl)
    go_wp2_with fail
    go_loopw [9, 10] (fun v s W => ∃ j : Nat, s = .int .i64 (j : Int) ∧ j ≤ n ∧ W.ownsRow W2.heap.size 9 1 v j (strs ((b.take j).map (nmOf fs))) ∧ Below W2.heap.size W2 W) (fun _ s _ => n - (intOf s).toNat)
    case atStart => exact ⟨0, rfl, Nat.zero_le _, unhide HR3, ba (Below.refl _ _) _⟩
    case round =>
      obtain ⟨j, rfl, hjb, hown, hbw⟩ := hrel
      rename World => W5
      have HOW := hide hown
      have HBW := hide hbw
      have HW5 := hide (bc (unhide HB2) hbw)
      obtain ⟨uq, cq, rfl, _⟩ := own_form hown
      clear hown hbw
      by_cases h : j < n
      · have i1 : (j : Int) < (n : Int) := by omega
        have i0 : (0 : Int) ≤ (j : Int) := Int.natCast_nonneg _
        have iz : decide ((j : Int) < (n : Int)) = true := decide_eq_true i1
        have hjl : j < b.length := by rw [unhide HLO]; exact h
        have hbj : b[j]? = some b[j] := List.getElem?_eq_getElem hjl
        have hbn := unhide HLT _ (List.getElem_mem hjl)
        obtain ⟨u8, c8, e8, h8⟩ := (unhide HIN).bel (unhide HBW)
        have e9 : u8 = uo := by injection e8 with a1 a2 a3; exact a1.symm
        subst e9
        clear e8
        obtain ⟨gb, ob, rfl, hgb, hib⟩ := h8 (by intro e; rw [e] at hjl; simp at hjl)
        have k1 := hib j _ (nats_at hbj)
        have htk := strs_take (fs := fs) hbj
        generalize b[j] = y at *
        have y1 : (y : Int) < (n : Int) := by omega
        have y0 : (0 : Int) ≤ (y : Int) := Int.natCast_nonneg _
        obtain ⟨f, hx⟩ := get_some (unhide HL) hbn
        rw [show nmOf fs y = f.nm by unfold nmOf; rw [getD_at hx]] at htk
        have HTK := hide htk
        obtain ⟨rfl, k0, _⟩ := ((unhide HU).bel (unhide HW5)).at15 hx
        clear hx htk hib h8 hbj
        go_wp2_with (at_builtin; refine unhide ?_)
        refine hide ?_
        refine wpList_append_own _ rfl _ _ 24 rfl W2.heap.size 9 iT _ 1 16 Try.underlying24 ht hx0 hx1 hx2 rfl (by decide) _ j _ rfl ((unhide HOW).alloc _) _ 1 1 (strs [f.nm]) rfl rfl (by first | exact news_cells _ _ rfl | exact news_cells _ _ (by simp)) (by intro u hu; simp only [strs, List.map_cons, List.map_nil, List.mem_singleton] at hu; subst hu; rfl) (by unfold maxLen; omega) (by omega) (Nat.le_trans (unhide HBW).size (by simp)) ?_
        intro v' w1 hown' hgrow _
        have hbw1 : Below W2.heap.size W2 w1 := (ba (unhide HBW) _).grown hgrow (Nat.le_trans (unhide HBW).size (by simp)) (fun g hg => (own_ge (unhide HOW) g hg).1)
        have hown2 : w1.ownsRow W2.heap.size 9 1 v' (j + 1) (strs ((b.take (j + 1)).map (nmOf fs))) := by
          rw [unhide HTK]
          exact hown'
        have HO2 := hide hown2
        have HBB := hide hbw1
        clear hown' hgrow hown2 hbw1
        go_wp2_with fail
        go_roundw
        case rel => exact ⟨j + 1, by simp, h, unhide HO2, unhide HBB⟩
        case measure => simp only [intOf]; omega
      · have i1 : ¬ (j : Int) < (n : Int) := by omega
        have iz : decide ((j : Int) < (n : Int)) = false := decide_eq_false i1
        have hjb' : n = j := by omega
        have hown := unhide HOW
        rw [List.take_of_length_le (by rw [unhide HLO]; omega)] at hown
        have hsr : SRow W5 w.heap.size (.slice uq j cq) (odN fs 0) := by
          unfold SRow
          rw [unhide HOD, List.length_map, unhide HLO, hjb']
          exact own_mono hown (unhide HB2).size
        have HSRO := hide hsr
        clear hsr hown
        subst hjb'
        go_wp2_with fail
        refine bodyPost_ret (v := .tuple #[.slice uq n cq, .int .i64 0, .slice (some ⟨W5.heap.size, 0, none⟩) 0 0]) (by simp [results, Try.results6, go_sem]; done) rfl ?_
        first
        | exact ⟨⟨_, _, _, [], rfl, unhide HCK, (unhide HSRO).bel (ba (Below.refl _ _) _), own_made W5 9 w.heap.size 1 (unhide HW5).size _ rfl⟩, ba (unhide HW5) _⟩
        | exact ⟨⟨_, _, _, rfl, [], unhide HCK, (unhide HSRO).bel (ba (Below.refl _ _) _), own_made W5 9 w.heap.size 1 (unhide HW5).size _ rfl⟩, ba (unhide HW5) _⟩
  · have hc' : (c == 0) = false := by simpa using hc
    clear hck hnm hb
    go_wp2_with fail
    refine bodyPost_ret (v := .tuple #[.slice (some ⟨W1.heap.size, 0, none⟩) 0 0, .int .i64 c, .slice ua ab.length ca]) (by simp [results, Try.results6, go_sem]; done) rfl ?_
    first
    | refine ⟨⟨_, _, _, ab, rfl, unhide HCK, ?_, (unhide HSR).bel (ba (Below.refl _ _) _)⟩, ba (unhide HB) _⟩
    | refine ⟨⟨_, _, _, rfl, ab, unhide HCK, ?_, (unhide HSR).bel (ba (Below.refl _ _) _)⟩, ba (unhide HB) _⟩
    rw [show odN fs c = [] from if_neg hc]
    exact own_made W1 9 w.heap.size 1 (unhide HB).size _ rfl
end Go.Proofs.Ytbenhicdhiichaa
