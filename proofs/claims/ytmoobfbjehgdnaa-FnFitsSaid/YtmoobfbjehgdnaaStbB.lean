/-
  The stable sort of rising ranks.
-/
import Derived.Test.YtmoobfbjehgdnaaSymwB
namespace Go.Proofs.Ytmoobfbjehgdnaa
open Go.ChangeShapes Go.WideShapes Go.ChangeAt Go.RowKit
set_option linter.unusedVariables false
set_option linter.unusedSimpArgs false

set_option maxHeartbeats 2000000 in
theorem stb_any (D m : Nat) (c : Value) (rem : Int → Int) (ok : Int → Prop) (Env : World → Prop) (H : Cmp c D (cmR rem) ok Env) (L : List Int) (w : World) (hm : m ≤ 4096) (hl : L.length = m) (hL : L.Pairwise (· < ·)) (hok : ∀ x ∈ L, ok x) (he : Env w) (hb : iblk w D 3 L) :
    Calls Try.prog 48 #[.slice (some ⟨D, 0, none⟩) m m, .int .i64 (m : Int), .func (.func 44) #[] #[c]] w fun e w' => e = .returned (.tuple #[]) ∧ (∃ M : List Int, M.Pairwise (ltR rem) ∧ M.Perm L ∧ iblk w' D 3 M) ∧ But D w w' := by
  have HI := hide hb
  have HE := hide he
  have HH := hide H
  have HL := hide hl
  have HLT := hide hL
  have HOK := hide hok
  have HIS := hide (fun (X S Y : List Int) (W : World) (h1 : X.length + S.length + Y.length = m) (h2 : ∀ x ∈ S, ok x) (h3 : But D w W) (h4 : iblk W D 3 (X ++ (S ++ Y))) => isr_any D m c (cmR rem) ok Env H X S Y W hm h1 h2 (H.keep w W he h3) h4)
  have HSY := hide (fun (X T1 T2 Y : List Int) (W : World) (h1 : X.length + T1.length + T2.length + Y.length = m) (h2 : 0 < T1.length) (h3 : 0 < T2.length) (h4 : Two2 rem ok T1 T2) (h5 : But D w W) (h6 : iblk W D 3 (X ++ (T1 ++ (T2 ++ Y)))) => sym_all D m c rem ok Env H hm (T1.length + T2.length + 1) X T1 T2 Y W (by omega) h1 h2 h3 h4 (H.keep w W he h5) h6)
  have hm' : (m : Int) ≤ 4096 := by omega
  have m0 : (0 : Int) ≤ (m : Int) := Int.natCast_nonneg _
  clear hb he H hl hL hok
  go_enter Try.func48, Try.ntmps48
  go_wp2_with fail
  go_loopw [7, 8] (fun z y W => ∃ (j a : Nat) (P A R : List Int), z = .int .i64 (a : Int) ∧ y = .int .i64 ((a : Int) + 20) ∧ P.length = a ∧ a = j * 20 ∧ a ≤ m ∧ A ++ R = L ∧ Chn rem 20 P A ∧ iblk W D 3 (P ++ R) ∧ But D w W) (fun z _ _ => m + 20 - (intOf z).toNat)
  case atStart => exact ⟨0, 0, [], [], L, rfl, rfl, rfl, rfl, Nat.zero_le _, rfl, chn_nil _ _, unhide HI, But.refl _ _⟩
  case round =>
    obtain ⟨j, a, P, A, R, rfl, rfl, hP, hj, ham, hAR, hC, hk, hw⟩ := hrel
    have hAl : A.length = a := by rw [← hC.1]; exact hP
    have hRl : a + R.length = m := by rw [← unhide HL, ← hAR, List.length_append, hAl]
    have hRok : ∀ x ∈ R, ok x := fun x hx => unhide HOK x (by rw [← hAR]; simp [hx])
    have hRlt : R.Pairwise (· < ·) := (List.pairwise_append.1 (by rw [hAR]; exact unhide HLT)).2.1
    have HP := hide hP
    have HJ := hide hj
    have HAR := hide hAR
    have HC := hide hC
    have HK := hide hk
    have HW := hide hw
    have HRL := hide hRl
    have HRO := hide hRok
    have HRT := hide hRlt
    clear hP hj hAR hC hk hw HI hAl hRl hRok hRlt
    by_cases h : a + 20 ≤ m
    · have d1 : decide ((a : Int) + 20 ≤ (m : Int)) = true := decide_eq_true (by omega)
      have h1 := unhide HIS P (R.take 20) (R.drop 20) wr (by have := unhide HP; have := unhide HRL; rw [List.length_take, List.length_drop]; omega) (fun x hx => unhide HRO x (List.mem_of_mem_take hx)) (unhide HW) (by rw [List.take_append_drop]; exact unhide HK)
      rw [unhide HP, show (R.take 20).length = 20 by rw [List.length_take]; have := unhide HRL; omega, show (((a + 20 : Nat)) : Int) = (a : Int) + 20 by omega] at h1
      have H1 := hide h1
      clear h1
      go_wp2_with fail
      refine (unhide H1).mono ?_
      rintro e W1 ⟨rfl, hk1, hb1⟩
      obtain ⟨g1, g2⟩ := srt_sorted (rem := rem) (R.take 20) ((unhide HRT).sublist (List.take_sublist _ _))
      have hl2 : ((srtR (cmR rem) [] (R.take 20)).reverse).length = 20 := by rw [g2.length_eq, List.length_take]; have := unhide HRL; omega
      generalize (srtR (cmR rem) [] (R.take 20)).reverse = S at *
      have HK1 := hide hk1
      have HB1 := hide ((unhide HW).trans hb1)
      have HS := hide (And.intro g1 (And.intro g2 hl2))
      clear hk1 hb1 g1 g2 hl2
      go_wp2_with fail
      go_roundw
      case rel =>
        refine ⟨j + 1, a + 20, P ++ S, A ++ R.take 20, R.drop 20, by simp, by simp, ?_, ?_, h, ?_, ?_, ?_, unhide HB1⟩
        · rw [List.length_append, (unhide HS).2.2, unhide HP]
        · have := unhide HJ; omega
        · rw [List.append_assoc, List.take_append_drop]; exact unhide HAR
        · exact chn_app (j := j) (unhide HC) (by rw [unhide HP]; exact unhide HJ) (chn_one (by rw [(unhide HS).2.2]; omega) (unhide HS).1 (unhide HS).2.1)
        · rw [List.append_assoc]; exact unhide HK1
      case measure => simp only [intOf]; omega
    · have d1 : decide ((a : Int) + 20 ≤ (m : Int)) = false := decide_eq_false (by omega)
      have h1 := unhide HIS P R [] wr (by have := unhide HP; have := unhide HRL; simp only [List.length_nil]; omega) (unhide HRO) (unhide HW) (by rw [List.append_nil]; exact unhide HK)
      rw [unhide HP, unhide HRL] at h1
      have H1 := hide h1
      clear h1
      go_wp2_with fail
      refine (unhide H1).mono ?_
      rintro e W1 ⟨rfl, hk1, hb1⟩
      rw [List.append_nil] at hk1
      obtain ⟨g1, g2⟩ := srt_sorted (rem := rem) R (unhide HRT)
      have hC1 : Chn rem 20 (P ++ (srtR (cmR rem) [] R).reverse) L := by
        rw [← unhide HAR]
        exact chn_app (j := j) (unhide HC) (by rw [unhide HP]; exact unhide HJ) (chn_one (by rw [g2.length_eq]; have := unhide HRL; omega) g1 g2)
      generalize P ++ (srtR (cmR rem) [] R).reverse = F0 at *
      have HK1 := hide hk1
      have HB1 := hide ((unhide HW).trans hb1)
      have HC1 := hide hC1
      clear hk1 hb1 g1 g2 hC1 HW HK HC HP HJ HAR HRL HRO HRT H1
      go_wp2_with fail
      go_loopw [6] (fun z W => ∃ (bs : Nat) (F : List Int), z = .int .i64 (bs : Int) ∧ 0 < bs ∧ bs ≤ 8192 ∧ Chn rem bs F L ∧ iblk W D 3 F ∧ But D w W) (fun z _ => m - (intOf z).toNat)
      case atStart => exact ⟨20, F0, rfl, by omega, by omega, unhide HC1, unhide HK1, unhide HB1⟩
      case round =>
        obtain ⟨bs, F, rfl, hb0, hb1, hC, hk, hw⟩ := hrel
        have HC := hide hC
        have HK := hide hk
        have HW := hide hw
        have hbI : (bs : Int) ≤ 8192 := by omega
        have hbJ : (0 : Int) < (bs : Int) := by omega
        clear hC hk hw HC1 HK1 HB1
        by_cases h2 : bs < m
        · have d2 : decide ((bs : Int) < (m : Int)) = true := decide_eq_true (by omega)
          have hbm : (bs : Int) < 4096 := by omega
          go_wp2_with fail
          go_loopw [7, 8] (fun z y W => ∃ (j a : Nat) (P A R Q : List Int), z = .int .i64 (a : Int) ∧ y = .int .i64 ((a : Int) + 2 * (bs : Int)) ∧ P.length = a ∧ a = j * (2 * bs) ∧ a ≤ m ∧ A ++ Q = L ∧ Chn rem (2 * bs) P A ∧ Chn rem bs R Q ∧ iblk W D 3 (P ++ R) ∧ But D w W) (fun z _ _ => m + 1 - (intOf z).toNat)
          case atStart => exact ⟨0, 0, [], [], F, L, rfl, by simp, rfl, by simp, Nat.zero_le _, rfl, chn_nil _ _, unhide HC, unhide HK, unhide HW⟩
          case round =>
            obtain ⟨j, a, P, A, R, Q, rfl, rfl, hP, hj, ham, hAQ, hCP, hCR, hk, hw⟩ := hrel
            have hAl : A.length = a := by rw [← hCP.1]; exact hP
            have hQl : a + Q.length = m := by rw [← unhide HL, ← hAQ, List.length_append, hAl]
            have hRl : a + R.length = m := by rw [hCR.1]; exact hQl
            have hQok : ∀ x ∈ Q, ok x := fun x hx => unhide HOK x (by rw [← hAQ]; simp [hx])
            have hQlt : Q.Pairwise (· < ·) := (List.pairwise_append.1 (by rw [hAQ]; exact unhide HLT)).2.1
            have htwo := hCR.two hQlt hQok
            have hperm : ∀ M : List Int, M.Perm (R.take bs ++ (R.drop bs).take bs) → M.Perm (Q.take (2 * bs)) := fun M hM => two_perm hCR hM
            have HP := hide hP
            have HJ := hide hj
            have HAQ := hide hAQ
            have HCP := hide hCP
            have HCR := hide hCR
            have HK2 := hide hk
            have HW2 := hide hw
            have HRL := hide hRl
            have HQL := hide hQl
            have HTW := hide htwo
            have HPM := hide hperm
            clear hP hj hAQ hCP hCR hk hw hAl hRl hQl hQok hQlt htwo hperm
            by_cases h3 : a + 2 * bs ≤ m
            · have d3 : decide ((a : Int) + 2 * (bs : Int) ≤ (m : Int)) = true := decide_eq_true (by omega)
              have l1 : (R.take bs).length = bs := by rw [List.length_take]; have := unhide HRL; omega
              have l2 : ((R.drop bs).take bs).length = bs := by rw [List.length_take, List.length_drop]; have := unhide HRL; omega
              have er : R = R.take bs ++ ((R.drop bs).take bs ++ R.drop (2 * bs)) := by rw [show R.drop (2 * bs) = (R.drop bs).drop bs by rw [List.drop_drop]; congr 1; omega, List.take_append_drop, List.take_append_drop]
              have h1 := unhide HSY P (R.take bs) ((R.drop bs).take bs) (R.drop (2 * bs)) wr (by rw [l1, l2, List.length_drop, unhide HP]; have := unhide HRL; omega) (by omega) (by omega) (unhide HTW) (unhide HW2) (by rw [← er]; exact unhide HK2)
              rw [unhide HP, l1, l2, show (((a + bs + bs : Nat)) : Int) = (a : Int) + 2 * (bs : Int) by omega, show (((a + bs : Nat)) : Int) = (a : Int) + (bs : Int) by omega] at h1
              have H1 := hide h1
              have L12 := hide (And.intro l1 l2)
              clear h1 l1 l2 er
              go_wp2_with fail
              refine (unhide H1).mono ?_
              rintro e W2 ⟨rfl, M, sm, pm, hk1, hb2⟩
              have hM : M.length = 2 * bs := by rw [pm.length_eq, List.length_append, (unhide L12).1, (unhide L12).2]; omega
              have HM := hide (And.intro sm (And.intro pm hM))
              have HK3 := hide hk1
              have HB3 := hide ((unhide HW2).trans hb2)
              clear hk1 hb2 sm pm hM
              go_wp2_with fail
              go_roundw
              case rel =>
                refine ⟨j + 1, a + 2 * bs, P ++ M, A ++ Q.take (2 * bs), R.drop (2 * bs), Q.drop (2 * bs), ?_, ?_, ?_, ?_, h3, ?_, ?_, ?_, ?_, unhide HB3⟩
                · simp only [Value.int.injEq, true_and]; omega
                · simp only [Value.int.injEq, true_and]; omega
                · rw [List.length_append, (unhide HM).2.2, unhide HP]
                · rw [Nat.add_mul, ← unhide HJ]; omega
                · rw [List.append_assoc, List.take_append_drop]; exact unhide HAQ
                · exact chn_app (j := j) (unhide HCP) (by rw [unhide HP]; exact unhide HJ) (chn_one (by rw [(unhide HM).2.2]; omega) (unhide HM).1 (unhide HPM M (unhide HM).2.1))
                · have := (unhide HCR).tail.tail
                  rw [List.drop_drop, List.drop_drop, show bs + bs = 2 * bs by omega] at this
                  exact this
                · rw [List.append_assoc]; exact unhide HK3
              case measure => simp only [intOf]; omega
            · have d3 : decide ((a : Int) + 2 * (bs : Int) ≤ (m : Int)) = false := decide_eq_false (by omega)
              by_cases h4 : a + bs < m
              · have d4 : decide ((a : Int) + (bs : Int) < (m : Int)) = true := decide_eq_true (by omega)
                have l1 : (R.take bs).length = bs := by rw [List.length_take]; have := unhide HRL; omega
                have l2 : (R.drop bs).take bs = R.drop bs := List.take_of_length_le (by rw [List.length_drop]; have := unhide HRL; omega)
                have l3 : (R.drop bs).length = m - a - bs := by rw [List.length_drop]; have := unhide HRL; omega
                have htw := unhide HTW
                have hpm := unhide HPM
                rw [l2] at htw
                have h1 := unhide HSY P (R.take bs) (R.drop bs) [] wr (by rw [l1, l3, unhide HP]; simp only [List.length_nil]; omega) (by omega) (by omega) htw (unhide HW2) (by rw [List.append_nil, List.take_append_drop]; exact unhide HK2)
                rw [unhide HP, l1, l3, show a + bs + (m - a - bs) = m by omega, show (((a + bs : Nat)) : Int) = (a : Int) + (bs : Int) by omega] at h1
                have H1 := hide h1
                have L2 := hide l2
                clear h1 l1 l2 l3 htw hpm
                go_wp2_with fail
                refine (unhide H1).mono ?_
                rintro e W2 ⟨rfl, M, sm, pm, hk1, hb2⟩
                rw [List.append_nil] at hk1
                have hM : M.length ≤ 2 * bs := by rw [pm.length_eq, List.take_append_drop]; have := unhide HRL; omega
                have hCC : Chn rem (2 * bs) (P ++ M) L := by
                  rw [← unhide HAQ]
                  refine chn_app (j := j) (unhide HCP) (by rw [unhide HP]; exact unhide HJ) (chn_one hM sm ?_)
                  have := unhide HPM M (by rw [unhide L2]; exact pm)
                  rwa [List.take_of_length_le (by have := unhide HQL; omega)] at this
                have HCC := hide hCC
                have HK3 := hide hk1
                have HB3 := hide ((unhide HW2).trans hb2)
                clear hk1 hb2 sm pm hM hCC
                go_wp2_with fail
                go_roundw
                case rel => exact ⟨2 * bs, P ++ M, by simp only [Value.int.injEq, true_and]; omega, by omega, by omega, unhide HCC, unhide HK3, unhide HB3⟩
                case measure => simp only [intOf]; omega
              · have d4 : decide ((a : Int) + (bs : Int) < (m : Int)) = false := decide_eq_false (by omega)
                have l1 : R.take bs = R := List.take_of_length_le (by have := unhide HRL; omega)
                have hCC : Chn rem (2 * bs) (P ++ R) L := by
                  rw [← unhide HAQ]
                  have h5 := (unhide HCR).head
                  rw [l1, List.take_of_length_le (by have := unhide HQL; omega)] at h5
                  exact chn_app (j := j) (unhide HCP) (by rw [unhide HP]; exact unhide HJ) (chn_one (by have := unhide HRL; omega) h5.1 h5.2)
                have HCC := hide hCC
                clear hCC l1
                go_wp2_with fail
                go_roundw
                case rel => exact ⟨2 * bs, P ++ R, by simp only [Value.int.injEq, true_and]; omega, by omega, by omega, unhide HCC, unhide HK2, unhide HW2⟩
                case measure => simp only [intOf]; omega
        · have d2 : decide ((bs : Int) < (m : Int)) = false := decide_eq_false (by omega)
          go_wp2_with fail
          refine bodyPost_end (v := .tuple #[]) (by simp [results, Try.results48, go_sem]) rfl ⟨rfl, ⟨F, ?_, ?_, unhide HK⟩, unhide HW⟩
          · have h5 := (unhide HC).head
            rw [List.take_of_length_le (by rw [(unhide HC).1, unhide HL]; omega)] at h5
            exact h5.1
          · have h5 := (unhide HC).head
            rw [List.take_of_length_le (by rw [(unhide HC).1, unhide HL]; omega), List.take_of_length_le (by rw [unhide HL]; omega)] at h5
            exact h5.2

/-- SortStableFunc of rising ranks -/
theorem ssf_any (D m : Nat) (c : Value) (rem : Int → Int) (ok : Int → Prop) (Env : World → Prop) (H : Cmp c D (cmR rem) ok Env) (L : List Int) (w : World) (hm : m ≤ 4096) (hl : L.length = m) (hL : L.Pairwise (· < ·)) (hok : ∀ x ∈ L, ok x) (he : Env w) (hb : iblk w D 3 L) :
    Calls Try.prog 43 #[.slice (some ⟨D, 0, none⟩) m m, .func (.func 44) #[] #[c]] w fun e w' => e = .returned (.tuple #[]) ∧ (∃ M : List Int, M.Pairwise (ltR rem) ∧ M.Perm L ∧ iblk w' D 3 M) ∧ But D w w' := by
  have HS := hide (stb_any D m c rem ok Env H L w hm hl hL hok he hb)
  clear hb he H hok
  go_enter Try.func43, Try.ntmps43
  go_wp2_with fail
  refine (unhide HS).mono ?_
  rintro e W1 ⟨rfl, h1, h2⟩
  have H1 := hide h1
  have H2 := hide h2
  clear h1 h2
  go_wp2_with fail
  exact bodyPost_end (v := .tuple #[]) (by simp [results, Try.results43, go_sem]) rfl ⟨rfl, unhide H1, unhide H2⟩
end Go.Proofs.Ytmoobfbjehgdnaa
