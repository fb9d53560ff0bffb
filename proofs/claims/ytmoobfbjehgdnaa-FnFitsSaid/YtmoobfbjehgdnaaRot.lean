/-
  A stretch of a row turned round a place, by exchanges.
-/
import Derived.Test.YtmoobfbjehgdnaaSwp
namespace Go.Proofs.Ytmoobfbjehgdnaa
open Go.ChangeShapes Go.WideShapes Go.ChangeAt Go.RowKit
set_option linter.unusedVariables false
set_option linter.unusedSimpArgs false

theorem swap1_at (L : List Int) (i j k : Nat) (hi : i < L.length) (hj : j < L.length) (hij : i ≠ j) : (swap1 L i j)[k]? = if k = i then L[j]? else if k = j then L[i]? else L[k]? := by
  unfold swap1
  rw [List.getElem?_set, List.length_set]
  by_cases h1 : j = k
  · subst h1
    rw [if_pos rfl, if_pos hj, if_neg (fun e => hij e.symm), if_pos rfl, at0_some hi]
  · rw [if_neg h1, List.getElem?_set]
    by_cases h2 : i = k
    · subst h2
      rw [if_pos rfl, if_pos hi, if_pos rfl, at0_some hj]
    · rw [if_neg h2, if_neg (fun e => h2 e.symm), if_neg (fun e => h1 e.symm)]
theorem swapR_at (L : List Int) (a b : Nat) : ∀ n k, a + n ≤ b → b + n ≤ L.length → (swapR L a b n)[k]? = if a ≤ k ∧ k < a + n then L[b + (k - a)]? else if b ≤ k ∧ k < b + n then L[a + (k - b)]? else L[k]? := by
  intro n
  induction n with
  | zero => intro k _ _; rw [if_neg (by omega), if_neg (by omega)]; rfl
  | succ n ih =>
    intro k h1 h2
    have hlen := swapR_len L a b n
    rw [swapR, swap1_at _ _ _ _ (by omega) (by omega) (by omega)]
    by_cases e1 : k = a + n
    · subst e1
      rw [if_pos rfl, ih _ (by omega) (by omega), if_neg (by omega), if_neg (by omega), if_pos (by omega)]
      congr 1
      omega
    · rw [if_neg e1]
      by_cases e2 : k = b + n
      · subst e2
        rw [if_pos rfl, ih _ (by omega) (by omega), if_neg (by omega), if_neg (by omega), if_neg (by omega), if_pos (by omega)]
        congr 1
        omega
      · rw [if_neg e2, ih _ (by omega) (by omega)]
        by_cases c1 : a ≤ k ∧ k < a + n
        · rw [if_pos c1, if_pos (by omega)]
        · have c1' : ¬ (a ≤ k ∧ k < a + (n + 1)) := by omega
          rw [if_neg c1, if_neg c1']
          by_cases c2 : b ≤ k ∧ k < b + n
          · have c2' : b ≤ k ∧ k < b + (n + 1) := by omega
            rw [if_pos c2, if_pos c2']
          · have c2' : ¬ (b ≤ k ∧ k < b + (n + 1)) := by omega
            rw [if_neg c2, if_neg c2']
/-- two stretches of one length change places -/
theorem swapR_parts (X A M B Y : List Int) (h : A.length = B.length) : swapR (X ++ (A ++ (M ++ (B ++ Y)))) X.length (X.length + A.length + M.length) A.length = X ++ (B ++ (M ++ (A ++ Y))) := by
  apply List.ext_getElem?
  intro k
  rw [swapR_at _ _ _ _ _ (by omega) (by simp; omega)]
  simp only [List.getElem?_append]
  repeat' split
  all_goals first | rfl | omega | (congr 1; omega)

set_option maxHeartbeats 600000 in
/-- rotate: A and B change places -/
theorem rot_any (D m : Nat) (f : Value) (X A B Y : List Int) (w : World) (hm : m ≤ 4096) (hl : (X ++ (A ++ (B ++ Y))).length = m) (hA : 0 < A.length) (hB : 0 < B.length) (hb : iblk w D 3 (X ++ (A ++ (B ++ Y)))) :
    Calls Try.prog 68 #[.slice (some ⟨D, 0, none⟩) m m, .int .i64 (X.length : Int), .int .i64 ((X.length + A.length : Nat) : Int), .int .i64 ((X.length + A.length + B.length : Nat) : Int), f] w fun e w' => e = .returned (.tuple #[]) ∧ iblk w' D 3 (X ++ (B ++ (A ++ Y))) ∧ But D w w' := by
  generalize hF : X ++ (B ++ (A ++ Y)) = F
  generalize hp : X.length + A.length = p
  have hx : X.length = p - A.length := by omega
  have HF : Hid (F = X ++ (B ++ (A ++ Y))) := hide hF.symm
  have HI := hide hb
  have hl' : X.length + A.length + B.length + Y.length = m := by simp only [List.length_append] at hl; omega
  rw [show (((p + B.length : Nat)) : Int) = (p : Int) + (B.length : Int) by omega]
  have q1 : X.length ≤ p := by omega
  have q2 : p + B.length ≤ m := by omega
  have q3 : (X.length : Int) ≤ (p : Int) := by omega
  have q4 : (p : Int) ≤ 4096 := by omega
  have HP0 := hide hp
  have HL0 := hide hl'
  have HXE := hide hx
  clear hF hb hl hp hx hl'
  go_enter Try.func68, Try.ntmps68
  go_wp2
  go_loopw [10, 11] (fun z y W => ∃ (X A B Y : List Int), z = .int .i64 (A.length : Int) ∧ y = .int .i64 (B.length : Int) ∧ X.length + A.length = p ∧ 0 < A.length ∧ 0 < B.length ∧ X.length + A.length + B.length + Y.length = m ∧ iblk W D 3 (X ++ (A ++ (B ++ Y))) ∧ F = X ++ (B ++ (A ++ Y)) ∧ But D w W) (fun z y _ => (intOf z).toNat + (intOf y).toNat)
  case atStart =>
    refine ⟨X, A, B, Y, ?_, ?_, unhide HP0, hA, hB, unhide HL0, unhide HI, unhide HF, But.refl _ _⟩
    · have := unhide HP0; first | rfl | (simp only [Value.int.injEq, true_and]; omega)
    · have := unhide HP0; first | rfl | (simp only [Value.int.injEq, true_and]; omega)
  case round =>
    obtain ⟨X, A, B, Y, rfl, rfl, hp, hA, hB, hl, hk, hF, hw⟩ := hrel
    have HK := hide hk
    have HF := hide hF
    have HW := hide hw
    have HP := hide hp
    have ex : ((X.length : Nat) : Int) = (p : Int) - (A.length : Int) := by omega
    have q5 : A.length ≤ p := by omega
    have q6 : p + B.length ≤ m := by omega
    have q7 : (A.length : Int) ≤ (p : Int) := by omega
    have q8 : (p : Int) + (B.length : Int) ≤ 4096 := by omega
    clear hk hF hw HI
    by_cases h : A.length = B.length
    · have e1 : ((A.length : Int) != (B.length : Int)) = false := by rw [bne_eq_false_iff_eq]; omega
      have HS := hide (fun W hW => swp_any D m X.length p A.length f (X ++ (A ++ (B ++ Y))) W (by simp only [List.length_append]; omega) hm (by omega) (by omega) hW)
      rw [ex] at HS
      have hpar := swapR_parts X A [] B Y h
      rw [List.length_nil, Nat.add_zero, hp, List.nil_append, List.nil_append, ← unhide HF] at hpar
      have HPar := hide hpar
      have HH := hide h
      clear hpar ex hp hl h
      go_wp2_with fail
      refine (unhide HS _ (unhide HK)).mono ?_
      rintro e W1 ⟨rfl, h1, h2⟩
      have H1 := hide h1
      have H2 := hide ((unhide HW).trans h2)
      clear h1 h2
      go_wp2_with fail
      refine bodyPost_end (v := .tuple #[]) (by simp [results, Try.results68, go_sem]) rfl ⟨rfl, ?_, unhide H2⟩
      have := unhide H1
      rwa [unhide HPar] at this
    · have e1 : ((A.length : Int) != (B.length : Int)) = true := by rw [bne_iff_ne]; omega
      by_cases hlt : B.length < A.length
      · have e2 : decide ((B.length : Int) < (A.length : Int)) = true := decide_eq_true (by omega)
        have HS := hide (fun W hW => swp_any D m X.length p B.length f (X ++ (A ++ (B ++ Y))) W (by simp only [List.length_append]; omega) hm (by omega) (by omega) hW)
        rw [ex] at HS
        have hl1 : (A.take B.length).length = B.length := by rw [List.length_take]; omega
        have hpar := swapR_parts X (A.take B.length) (A.drop B.length) B Y hl1
        rw [hl1, show X.length + B.length + (A.drop B.length).length = p by rw [List.length_drop]; omega, ← List.append_assoc (A.take B.length), List.take_append_drop] at hpar
        have HPar := hide hpar
        have HL1 := hide hl1
        have hd : (A.drop B.length).length = A.length - B.length := List.length_drop
        have HD := hide hd
        have HL := hide hl
        have HH := hide h
        clear hpar ex hl1 hd hp hl h
        go_wp2_with fail
        refine (unhide HS _ (unhide HK)).mono ?_
        rintro e W1 ⟨rfl, h1, h2⟩
        have H1 := hide h1
        have H2 := hide ((unhide HW).trans h2)
        clear h1 h2
        go_wp2_with fail
        go_roundw
        case rel =>
          refine ⟨X ++ B, A.drop B.length, A.take B.length, Y, ?_, ?_, ?_, ?_, ?_, ?_, ?_, ?_, unhide H2⟩
          · simp only [Value.int.injEq, true_and]; rw [unhide HD]; omega
          · rw [unhide HL1]
          · rw [List.length_append, unhide HD]; have := unhide HP; omega
          · rw [unhide HD]; omega
          · rw [unhide HL1]; exact hB
          · rw [List.length_append, unhide HD, unhide HL1]; have := unhide HL; omega
          · have := unhide H1
            rw [unhide HPar] at this
            rw [List.append_assoc]
            exact this
          · rw [unhide HF, List.append_assoc, ← List.append_assoc (A.take B.length), List.take_append_drop]
        case measure => simp only [intOf]; have := unhide HH; omega
      · have e2 : decide ((B.length : Int) < (A.length : Int)) = false := decide_eq_false (by omega)
        have hl2 : (B.drop (B.length - A.length)).length = A.length := by rw [List.length_drop]; omega
        have hl1 : (B.take (B.length - A.length)).length = B.length - A.length := by rw [List.length_take]; omega
        have HS := hide (fun W hW => swp_any D m X.length (p + B.length - A.length) A.length f (X ++ (A ++ (B ++ Y))) W (by simp only [List.length_append]; omega) hm (by omega) (by omega) hW)
        rw [ex, show (((p + B.length - A.length : Nat)) : Int) = (p : Int) + (B.length : Int) - (A.length : Int) by omega] at HS
        have hpar := swapR_parts X A (B.take (B.length - A.length)) (B.drop (B.length - A.length)) Y hl2.symm
        rw [hl1, show X.length + A.length + (B.length - A.length) = p + B.length - A.length by omega, ← List.append_assoc (B.take _), List.take_append_drop] at hpar
        have HPar := hide hpar
        have HL1 := hide hl1
        have HL2 := hide hl2
        have HL := hide hl
        have HH := hide h
        clear hpar ex hl1 hl2 hp hl h
        go_wp2_with fail
        refine (unhide HS _ (unhide HK)).mono ?_
        rintro e W1 ⟨rfl, h1, h2⟩
        have H1 := hide h1
        have H2 := hide ((unhide HW).trans h2)
        clear h1 h2
        go_wp2_with fail
        go_roundw
        case rel =>
          refine ⟨X, B.drop (B.length - A.length), B.take (B.length - A.length), A ++ Y, ?_, ?_, ?_, ?_, ?_, ?_, ?_, ?_, unhide H2⟩
          · rw [unhide HL2]
          · simp only [Value.int.injEq, true_and]; rw [unhide HL1]; omega
          · rw [unhide HL2]; exact unhide HP
          · rw [unhide HL2]; exact hA
          · rw [unhide HL1]; have := unhide HH; omega
          · rw [List.length_append, unhide HL2, unhide HL1]; have := unhide HL; omega
          · have := unhide H1
            rw [unhide HPar] at this
            exact this
          · rw [unhide HF, ← List.append_assoc (B.take _), List.take_append_drop]
        case measure => simp only [intOf]; have := unhide HH; omega
end Go.Proofs.Ytmoobfbjehgdnaa
