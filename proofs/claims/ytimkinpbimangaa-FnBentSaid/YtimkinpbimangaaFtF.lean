/-
  The program's Flat at every list of points.
-/
import Derived.Test.YtimkinpbimangaaFtP
import Derived.Test.YtimkinpbimangaaBnB
import Derived.Test.YtimkinpbimangaaPtKit
import Derived.Test.YtimkinpbimangaaPointsP
namespace Go.Proofs.Ytimkinpbimangaa
open Go.ChangeShapes Go.WideShapes Go.ChangeAt Go.RowKit
set_option linter.unusedVariables false
set_option linter.unusedSimpArgs false

theorem pts_ext {A B : List Pt} (hl : A.length = B.length) (h : ∀ i, i < A.length → ptD A i = ptD B i) : A = B := by
  apply List.ext_getElem hl
  intro i h1 h2
  have := h i h1
  unfold ptD at this
  rw [List.getD_eq_getElem?_getD, List.getD_eq_getElem?_getD, List.getElem?_eq_getElem h1, List.getElem?_eq_getElem h2] at this
  exact this
set_option maxHeartbeats 2000000 in
theorem eqS_any (b n cap c po m dap : Nat) (A B : List Pt) (w : World) (hA : A.length = n) (hB : B.length = m) (hn : n ≤ 1048576) (hm : m ≤ 1048576) (hb : b < w.heap.size) (hc : c < w.heap.size) (ia : IntsAt w b 0 (fl2 A)) (ib : IntsAt w c po (fl2 B)) :
    Calls Try.prog 41 #[.slice (some ⟨b, 0, none⟩) n cap, .slice (some ⟨c, po, none⟩) m dap] w fun e w' => e = .returned (.bool (decide (A = B))) ∧ Below w.heap.size w w' := by
  have n0 : (0 : Int) ≤ (n : Int) := Int.natCast_nonneg _
  have m0 : (0 : Int) ≤ (m : Int) := Int.natCast_nonneg _
  by_cases hnm : n = m
  · subst hnm
    have HEX : Hid ((∀ i, i < n → ptD A i = ptD B i) → A = B) := hide (fun h => pts_ext (by omega) (fun i hi => h i (by omega)))
    have HNE : Hid (∀ i, i < n → ptD A i ≠ ptD B i → A ≠ B) := hide (fun i hi h e => h (by rw [e]))
    have HCA : Hid (∀ i, i < n → ∀ W, Below w.heap.size w W → W.cell? ⟨b, i * 2, none⟩ = some (.int .i64 (ptD A i).1) ∧ W.cell? ⟨b, i * 2 + 1, none⟩ = some (.int .i64 (ptD A i).2)) := hide (fun i hi W hW => by
      have hx := fl2_D (pts := A) (i := i) (by omega)
      have hh := ia.below hW hb
      have h1 := hh _ _ hx.1
      have h2 := hh _ _ hx.2
      rw [Nat.zero_add] at h1 h2
      exact ⟨h1, h2⟩)
    have HCB : Hid (∀ i, i < n → ∀ W, Below w.heap.size w W → W.cell? ⟨c, po + i * 2, none⟩ = some (.int .i64 (ptD B i).1) ∧ W.cell? ⟨c, po + i * 2 + 1, none⟩ = some (.int .i64 (ptD B i).2)) := hide (fun i hi W hW => by
      have hx := fl2_D (pts := B) (i := i) (by omega)
      have hh := ib.below hW hc
      exact ⟨hh.at0 hx.1, hh.at hx.2⟩)
    have ne : ((n : Int) != (n : Int)) = false := by simp
    clear ia ib hA hB
    go_enter Try.func41, Try.ntmps41
    go_wp2_with fail
    go_loopw [13] (fun s W => ∃ i : Nat, s = .int .i64 (i : Int) ∧ i ≤ n ∧ Below w.heap.size w W ∧ ∀ j, j < i → ptD A j = ptD B j) (fun s _ => n - (intOf s).toNat)
    case atStart => exact ⟨0, rfl, Nat.zero_le _, Below.refl _ _, fun j hj => absurd hj (by omega)⟩
    case round =>
      obtain ⟨i, rfl, hi, hW, hF⟩ := hrel
      have HW := hide hW
      have HF := hide hF
      clear hW hF
      by_cases h : i < n
      · have i1 : (i : Int) < (n : Int) := by omega
        have i0 : (0 : Int) ≤ (i : Int) := Int.natCast_nonneg _
        have iz : decide ((i : Int) < (n : Int)) = true := decide_eq_true i1
        go_wp2_with fail
        refine Go.Code.wp_mono (Only.to (fun _ _ h => h)) (eq6 (hide (unhide HCA i h _ (unhide HW)).1) (hide (unhide HCA i h _ (unhide HW)).2) (hide (unhide HCB i h _ (unhide HW)).1) (hide (unhide HCB i h _ (unhide HW)).2) (hide h) (hide h) ?_)
        intro W1 hW1
        have HW1 := hide (bc (unhide HW) hW1)
        clear hW1
        by_cases he : ptD A i = ptD B i
        · have e1 : (!decide ((ptD A i).1 = (ptD B i).1) || !decide ((ptD A i).2 = (ptD B i).2)) = false := by rw [he]; simp
          rw [e1]
          have HNX : Hid (∀ j, j < i + 1 → ptD A j = ptD B j) := hide (by
            intro j hj
            by_cases e : j < i
            · exact unhide HF j e
            · obtain rfl : j = i := by omega
              exact he)
          clear e1 he
          go_wp2_with fail
          go_roundw
          case rel => first | exact ⟨i + 1, by simp, h, unhide HW1, unhide HNX⟩ | ((repeat apply Exists.intro); refine ⟨?_, rfl⟩; exact ⟨i + 1, by simp, h, unhide HW1, unhide HNX⟩)
          case measure => first | (simp only [intOf]; omega) | (simp [intOf]; omega)
        · have e1 : (!decide ((ptD A i).1 = (ptD B i).1) || !decide ((ptD A i).2 = (ptD B i).2)) = true := by
            by_cases h1 : (ptD A i).1 = (ptD B i).1
            · by_cases h2 : (ptD A i).2 = (ptD B i).2
              · exact absurd (Prod.ext h1 h2) he
              · simp [h2]
            · simp [h1]
          rw [e1]
          have HD : Hid (decide (A = B) = false) := hide (decide_eq_false (unhide HNE i h he))
          clear e1 he
          go_wp2_with fail
          go_ret
          exact ⟨by rw [unhide HD]; rfl, unhide HW1⟩
      · have iz : decide ((i : Int) < (n : Int)) = false := decide_eq_false (by omega)
        have HD : Hid (decide (A = B) = true) := hide (decide_eq_true (unhide HEX (fun j hj => unhide HF j (by omega))))
        go_wp2_with fail
        go_ret
        exact ⟨by rw [unhide HD]; rfl, unhide HW⟩
  · have ne : ((n : Int) != (m : Int)) = true := by simp; omega
    have ne2 : ¬ (n : Int) = (m : Int) := by omega
    have HD : Hid (decide (A = B) = false) := hide (decide_eq_false (fun e => hnm (by rw [← hA, ← hB, e])))
    clear ia ib hA hB
    go_enter Try.func41, Try.ntmps41
    go_wp2_with fail
    go_ret
    exact ⟨by rw [unhide HD]; rfl, Below.refl _ _⟩
theorem ptsAt_of {w : World} {b off : Nat} {L : List Pt} (h : IntsAt w b off (fl2 L)) : PtsAt w b off L := by
  intro j x hj
  obtain ⟨h1, h2⟩ := fl2_at hj
  exact ⟨h.at0 h1, h.at h2⟩
theorem bnL_len (ps bs : List Int) : (bnL ps bs).length ≤ 41 := by
  unfold bnL
  split
  · simp
  · split
    · rename_i h
      have := (stp_parts h).1
      split
      · rw [cns_len]; omega
      · simp
    · simp
/-- what Flat answers -/
def FtAns (w w' : World) (pts : List Pt) (e : Ending) : Prop := ∃ r1 r2, e = .returned (.tuple #[r1, r2, .int .i64 (ftK pts)]) ∧ Row w' w.heap.size 3 1 r1 (ftP pts).length (ftP pts) ∧ Row w' w.heap.size 3 1 r2 (ftB pts).length (ftB pts) ∧ Dj r1 r2
set_option maxHeartbeats 4000000 in
set_option maxRecDepth 100000 in
theorem ftP_any (b po N cap : Nat) (pts : List Pt) (w : World) (hl : pts.length = N) (hN : N ≤ 1048576) (hcap : N ≤ cap) (hb : b < w.heap.size) (hc : IntsAt w b po (fl2 pts)) :
    Calls Try.prog 12 #[.slice (some ⟨b, po, none⟩) N cap] w fun e w' => FtAns w w' pts e ∧ Below w.heap.size w w' := by
  unfold FtAns
  have n0 : (0 : Int) ≤ (N : Int) := Int.natCast_nonneg _
  by_cases hL : 4096 < N
  · have HANS := hide (ft_long (pts := pts) (by omega))
    have tL : decide ((4096 : Int) < (N : Int)) = true := decide_eq_true (by omega)
    clear hl hc
    go_enter Try.func12, Try.ntmps12
    go_wp2_with fail
    exact bodyPost_ret (v := .tuple #[.slice none 0 0, .slice none 0 0, .int .i64 2]) (by simp [results, Try.results12, go_sem]) rfl ⟨⟨_, _, by rw [(unhide HANS).1], by rw [(unhide HANS).2.1]; exact ⟨rfl, .inl ⟨rfl, rfl⟩⟩, by rw [(unhide HANS).2.2]; exact ⟨rfl, .inl ⟨rfl, rfl⟩⟩, nil_dj _⟩, Below.refl _ _⟩
  have tL : decide ((4096 : Int) < (N : Int)) = false := decide_eq_false (by omega)
  have hL' : ¬ 4096 < pts.length := by omega
  by_cases h2 : N < 2
  · have HANS := hide (ft_bad hL' (Or.inl (by omega)))
    have t2 : decide ((N : Int) < 2) = true := decide_eq_true (by omega)
    clear hl hc
    go_enter Try.func12, Try.ntmps12
    go_wp2_with fail
    exact bodyPost_ret (v := .tuple #[.slice none 0 0, .slice none 0 0, .int .i64 1]) (by simp [results, Try.results12, go_sem]) rfl ⟨⟨_, _, by rw [(unhide HANS).1], by rw [(unhide HANS).2.1]; exact ⟨rfl, .inl ⟨rfl, rfl⟩⟩, by rw [(unhide HANS).2.2]; exact ⟨rfl, .inl ⟨rfl, rfl⟩⟩, nil_dj _⟩, Below.refl _ _⟩
  have t2 : decide ((N : Int) < 2) = false := decide_eq_false (by omega)
  have HRP := hide (ptsP_any b po cap pts w (by omega) hb (ptsAt_of hc))
  rw [hl] at HRP
  have HBAD : Hid (pts.all ptOk = false → ftK pts = 1 ∧ ftP pts = [] ∧ ftB pts = []) := hide (fun h => ft_bad hL' (Or.inr h))
  have HNO : Hid (ftOk pts = false → ftK pts = 1 ∧ ftP pts = [] ∧ ftB pts = []) := hide (fun h => ft_no hL' h)
  have HYES : Hid (pts.all ptOk = true → ftOk pts = true → ftK pts = 0 ∧ ftP pts = mp pts ∧ ftB pts = mb pts) := hide (fun ha h => ft_yes hL' (by omega) ha h)
  have HMS := hide (fun (ha : pts.all ptOk = true) (W : World) (hW : Below w.heap.size w W) => msP_any b po N cap pts W hl (by omega) (by omega) hcap ha (Nat.lt_of_lt_of_le hb hW.size) (hc.below hW hb))
  have HBN := hide (fun (u1 u2 : Option Addr) (c1 c2 : Nat) (W : World) (h1 : Its W u1 (bo u1) 0 (mp pts)) (h2 : Its W u2 (bo u2) 0 (mb pts)) => bnP_any u1 u2 (bo u1) 0 (bo u2) 0 (N - 1) (N - 2) c1 c2 (mp pts) (mb pts) W (by rw [mp_len, hl]) (by rw [mb_len, hl]) (by omega) (by omega) h1 h2)
  have HL41 : Hid ((bnL (mp pts) (mb pts)).length ≤ 41) := hide (bnL_len _ _)
  have HNZ : Hid ((bnK (mp pts) (mb pts)).1 = 0 → (bnL (mp pts) (mb pts)).length ≠ 0) := hide (fun h => by
    intro h0
    by_cases hL : 4096 < (mp pts).length ∨ 4096 < (mb pts).length
    · rw [(bn_long hL).1] at h; cases h
    · cases hs : stp (mp pts) (mb pts) with
      | false => rw [(bn_bad hL hs).1] at h; cases h
      | true =>
        cases hf : fstB (mp pts) (mb pts) (mp pts).length with
        | some i => rw [(bn_meet hL hs hf).1] at h; cases h
        | none => rw [(bn_good hL hs hf).2, cns_len] at h0; omega)
  have HEQ := hide (fun (g c1 n1 : Nat) (A : List Pt) (W : World) (hA : A.length = n1) (h41 : n1 ≤ 41) (hg : g < W.heap.size) (hW : Below w.heap.size w W) (ia : IntsAt W g 0 (fl2 A)) => eqS_any g n1 c1 b po N cap A pts W hA hl (by omega) (by omega) hg (Nat.lt_of_lt_of_le hb hW.size) ia (hc.below hW hb))
  have HOKD : Hid (ftOk pts = decide ((bnK (mp pts) (mb pts)).1 = 0 ∧ bnL (mp pts) (mb pts) = pts)) := hide rfl
  have HML : Hid ((mp pts).length = N - 1 ∧ (mb pts).length = N - 2) := hide ⟨by rw [mp_len, hl], by rw [mb_len, hl]⟩
  clear hl hc hL hL'
  go_enter Try.func12, Try.ntmps12
  go_wp2_with fail
  refine (unhide HRP).mono ?_
  rintro e W1 ⟨rfl, hb1⟩
  have HB1 := hide hb1
  clear hb1
  cases ha : pts.all ptOk with
  | false =>
    have HANS := hide (unhide HBAD ha)
    go_wp2_with fail
    exact bodyPost_ret (v := .tuple #[.slice none 0 0, .slice none 0 0, .int .i64 1]) (by simp [results, Try.results12, go_sem]) rfl ⟨⟨_, _, by rw [(unhide HANS).1], by rw [(unhide HANS).2.1]; exact ⟨rfl, .inl ⟨rfl, rfl⟩⟩, by rw [(unhide HANS).2.2]; exact ⟨rfl, .inl ⟨rfl, rfl⟩⟩, nil_dj _⟩, unhide HB1⟩
  | true =>
    go_wp2_with fail
    refine (unhide HMS ha _ (unhide HB1)).mono ?_
    rintro e W2 ⟨⟨r1, r2, rfl, hr1, hr2, hdj⟩, hb2⟩
    obtain ⟨u1, c1, rfl, _⟩ := hr1.form
    obtain ⟨u2, c2, rfl, _⟩ := hr2.form
    have HR1 := hide (hr1.mono (B' := w.heap.size) (unhide HB1).size)
    have HR2 := hide (hr2.mono (B' := w.heap.size) (unhide HB1).size)
    have HDJ := hide hdj
    have HB2 := hide (bc (unhide HB1) hb2)
    clear hr1 hr2 hdj hb2
    go_wp2_with fail
    refine (unhide HBN u1 u2 c1 c2 _ (unhide HR1).its (unhide HR2).its).mono ?_
    rintro e W3 ⟨⟨r3, rfl, hr3⟩, hb3⟩
    have HR1 := hide ((unhide HR1).below hb3)
    have HR2 := hide ((unhide HR2).below hb3)
    have HR3 := hide hr3
    have HB3 := hide (bc (unhide HB2) hb3)
    clear hr3 hb3
    by_cases hk : (bnK (mp pts) (mb pts)).1 = 0
    · have hnz := unhide HNZ hk
      obtain ⟨g, cg, hv, hg, hgl, _, _⟩ := (unhide HR3).sm (by
        intro e
        rcases (unhide HR3).2 with ⟨_, h0⟩ | ⟨_, _, _, h0, _⟩
        · exact hnz h0
        · rw [e] at h0; cases h0)
      subst hv
      have HI3 := hide (unhide HR3).ints
      have HEQ2 := hide (fun W hW hg' ia => unhide HEQ g cg _ (bnL (mp pts) (mb pts)) W rfl (unhide HL41) hg' hW ia)
      rw [hk] at HOKD ⊢
      generalize (bnL (mp pts) (mb pts)).length = ml at *
      generalize (bnK (mp pts) (mb pts)).2 = kp at *
      go_wp2_with fail
      refine (unhide HEQ2 _ (unhide HB3) hgl (unhide HI3)).mono ?_
      rintro e W4 ⟨rfl, hb4⟩
      have HR1 := hide ((unhide HR1).below hb4)
      have HR2 := hide ((unhide HR2).below hb4)
      have HB4 := hide (bc (unhide HB3) hb4)
      clear hb4
      by_cases heq : bnL (mp pts) (mb pts) = pts
      · have HANS := hide (unhide HYES ha (by rw [unhide HOKD]; exact decide_eq_true ⟨by first | rfl | trivial | exact hk, heq⟩))
        rw [decide_eq_true heq]
        go_wp2_with fail
        exact bodyPost_ret (v := .tuple #[.slice u1 (N - 1) c1, .slice u2 (N - 2) c2, .int .i64 0]) (by simp [results, Try.results12, go_sem]) rfl ⟨⟨_, _, by rw [(unhide HANS).1], by rw [(unhide HANS).2.1, (unhide HML).1]; exact unhide HR1, by rw [(unhide HANS).2.2, (unhide HML).2]; exact unhide HR2, unhide HDJ⟩, unhide HB4⟩
      · have HANS := hide (unhide HNO (by rw [unhide HOKD]; exact decide_eq_false (fun h => heq h.2)))
        rw [decide_eq_false heq]
        go_wp2_with fail
        exact bodyPost_ret (v := .tuple #[.slice none 0 0, .slice none 0 0, .int .i64 1]) (by simp [results, Try.results12, go_sem]) rfl ⟨⟨_, _, by rw [(unhide HANS).1], by rw [(unhide HANS).2.1]; exact ⟨rfl, .inl ⟨rfl, rfl⟩⟩, by rw [(unhide HANS).2.2]; exact ⟨rfl, .inl ⟨rfl, rfl⟩⟩, nil_dj _⟩, unhide HB4⟩
    · have HANS := hide (unhide HNO (by rw [unhide HOKD]; exact decide_eq_false (fun h => hk h.1)))
      generalize (bnK (mp pts) (mb pts)).1 = kc at *
      generalize (bnK (mp pts) (mb pts)).2 = kp at *
      have t5 : (kc != 0) = true := by simp [hk]
      go_wp2_with fail
      exact bodyPost_ret (v := .tuple #[.slice none 0 0, .slice none 0 0, .int .i64 1]) (by simp [results, Try.results12, go_sem]) rfl ⟨⟨_, _, by rw [(unhide HANS).1], by rw [(unhide HANS).2.1]; exact ⟨rfl, .inl ⟨rfl, rfl⟩⟩, by rw [(unhide HANS).2.2]; exact ⟨rfl, .inl ⟨rfl, rfl⟩⟩, nil_dj _⟩, unhide HB3⟩
end Go.Proofs.Ytimkinpbimangaa
