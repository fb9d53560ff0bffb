/-
  A stretch of a row sorted by insertion, in place, by any comparison.
-/
import Derived.Test.YtmoobfbjehgdnaaRot
import Derived.Shelf.Abstract
namespace Go.Proofs.Ytmoobfbjehgdnaa
open Go.ChangeShapes Go.WideShapes Go.ChangeAt Go.RowKit
set_option linter.unusedVariables false
set_option linter.unusedSimpArgs false

/-- insertion from the right: r is a row from its right end on -/
def insR (cm : Int → Int → Int) (e : Int) : List Int → List Int
  | [] => [e]
  | t :: r => if cm e t < 0 then t :: insR cm e r else e :: t :: r
def srtR (cm : Int → Int → Int) : List Int → List Int → List Int
  | r, [] => r
  | r, x :: xs => srtR cm (insR cm x r) xs
theorem insR_len (cm : Int → Int → Int) (e : Int) (r : List Int) : (insR cm e r).length = r.length + 1 := by
  induction r with
  | nil => rfl
  | cons t r ih => simp only [insR]; split <;> simp [ih]
theorem insR_done (cm : Int → Int → Int) (e : Int) (d r : List Int) (h : ∀ t ∈ d, cm e t < 0) : insR cm e (d ++ r) = d ++ insR cm e r := by
  induction d with
  | nil => rfl
  | cons t d ih =>
    simp only [List.cons_append, insR]
    rw [if_pos (h t (by simp)), ih (fun x hx => h x (by simp [hx]))]
theorem insR_stop (cm : Int → Int → Int) (e : Int) (r : List Int) (h : ∀ t, r.head? = some t → ¬ cm e t < 0) : insR cm e r = e :: r := by
  cases r with
  | nil => rfl
  | cons t r => simp only [insR]; rw [if_neg (h t rfl)]
/-- what a comparison answers, and that it changes nothing -/
structure Cmp (c : Value) (D : Nat) (cm : Int → Int → Int) (ok : Int → Prop) (Env : World → Prop) : Prop where
  enters : ∀ args w, (callFunc 44 args).run Try.prog w = .ok (.enter 44 args) w
  keep : ∀ W W', Env W → But D W W' → Env W'
  ans : ∀ (W : World) (x y : Int), Env W → ok x → ok y → Calls Try.prog 44 #[.int .i64 x, .int .i64 y, c] W fun e w' => e = .returned (.int .i64 (cm x y)) ∧ Same W w'
theorem But.sm {g : Nat} {a b c : World} (h : But g a b) (k : Same b c) : But g a c := h.same k

theorem sw_at0 (P Q : List Int) (t e : Int) : (P ++ (t :: e :: Q))[P.length]? = some t ∧ (P ++ (t :: e :: Q))[P.length + 1]? = some e := by
  constructor
  · rw [List.getElem?_append_right (Nat.le_refl _), Nat.sub_self]; rfl
  · rw [List.getElem?_append_right (by omega), show P.length + 1 - P.length = 1 by omega]; rfl
theorem sw_set (P Q : List Int) (t e : Int) : ((P ++ (t :: e :: Q)).set (P.length + 1) t).set P.length e = P ++ (e :: t :: Q) := by
  rw [List.set_append, if_neg (by omega), show P.length + 1 - P.length = 1 by omega, List.set_append, if_neg (by omega), Nat.sub_self]
  rfl
theorem row_view (X r3 Q : List Int) (t e : Int) : X ++ ((t :: r3).reverse ++ (e :: Q)) = (X ++ r3.reverse) ++ (t :: e :: Q) := by simp

set_option maxHeartbeats 1000000 in
theorem isr_any (D m : Nat) (c : Value) (cm : Int → Int → Int) (ok : Int → Prop) (Env : World → Prop) (H : Cmp c D cm ok Env) (X S Y : List Int) (w : World) (hm : m ≤ 4096) (hl : X.length + S.length + Y.length = m) (hok : ∀ x ∈ S, ok x) (he : Env w) (hb : iblk w D 3 (X ++ (S ++ Y))) :
    Calls Try.prog 61 #[.slice (some ⟨D, 0, none⟩) m m, .int .i64 (X.length : Int), .int .i64 ((X.length + S.length : Nat) : Int), .func (.func 44) #[] #[c]] w fun e w' => e = .returned (.tuple #[]) ∧ iblk w' D 3 (X ++ ((srtR cm [] S).reverse ++ Y)) ∧ But D w w' := by
  have HI := hide hb
  have HE := hide he
  have HH := hide H
  have EG := H.enters
  generalize hp : X.length = p at *
  have HP := hide hp
  clear hb he H hp
  cases S with
  | nil =>
    have i1 : decide ((p : Int) + 1 < ((p + ([] : List Int).length : Nat) : Int)) = false := decide_eq_false (by simp; omega)
    have i2 : ¬ (p : Int) + 1 < (p : Int) := by omega
    go_enter Try.func61, Try.ntmps61
    go_wp2
    refine wp_loop_rounds 1 ?_
    rw [rounds_succ]
    go_wp2_with fail
    exact bodyPost_end (v := .tuple #[]) (by simp [results, Try.results61, go_sem]) rfl ⟨rfl, unhide HI, But.refl _ _⟩
  | cons s0 S =>
    generalize hF : X ++ ((srtR cm [] (s0 :: S)).reverse ++ Y) = F
    generalize hq : p + (s0 :: S).length = q
    have hq' : p + 1 + S.length = q := by rw [← hq]; simp; omega
    have q1 : p < q := by omega
    have q2 : q ≤ m := by simp at hl; omega
    have HF := hide hF
    have HQ := hide hq'
    have HOK := hide hok
    have HL := hide hl
    clear hF hq hq' hok hl
    go_enter Try.func61, Try.ntmps61
    go_wp2
    go_loopw [8] (fun z W => ∃ (i : Nat) (r rest : List Int), z = .int .i64 (i : Int) ∧ p + r.length = i ∧ 1 ≤ r.length ∧ i + rest.length = q ∧ (∀ x ∈ r, ok x) ∧ (∀ x ∈ rest, ok x) ∧ iblk W D 3 (X ++ (r.reverse ++ (rest ++ Y))) ∧ F = X ++ ((srtR cm r rest).reverse ++ Y) ∧ But D w W) (fun z _ => q - (intOf z).toNat)
    case atStart =>
      refine ⟨p + 1, [s0], S, by simp, by simp, by simp, unhide HQ, fun x hx => unhide HOK x (by simp at hx; simp [hx]), fun x hx => unhide HOK x (by simp [hx]), ?_, ?_, But.refl _ _⟩
      · exact unhide HI
      · rw [← unhide HF]; rfl
    case round =>
      obtain ⟨i, r, rest, rfl, hpr, hr1, hir, hokr, hoks, hk, hFF, hw⟩ := hrel
      have HPR := hide hpr
      have HR := hide hir
      have HOR := hide hokr
      have HOS := hide hoks
      have HK := hide hk
      have HFF := hide hFF
      have HW := hide hw
      have hiq : i ≤ q := by omega
      have hpi : p < i := by omega
      clear hpr hir hokr hoks hk hFF hw HI
      by_cases h : i < q
      · have i1 : decide ((i : Int) < (q : Int)) = true := decide_eq_true (by omega)
        obtain ⟨e, rest', hre⟩ : ∃ e rest', rest = e :: rest' := by
          cases rest with
          | nil => have := unhide HR; simp at this; omega
          | cons e rest' => exact ⟨e, rest', rfl⟩
        subst hre
        go_wp2_with fail
        go_loopw [9] (fun z W => ∃ (j : Nat) (d r2 : List Int), z = .int .i64 (j : Int) ∧ p + r2.length = j ∧ j ≤ i ∧ r = d ++ r2 ∧ (∀ t ∈ d, cm e t < 0) ∧ iblk W D 3 (X ++ (r2.reverse ++ (e :: (d.reverse ++ (rest' ++ Y))))) ∧ But D w W) (fun z _ => (intOf z).toNat)
        case atStart => exact ⟨i, [], r, rfl, unhide HPR, Nat.le_refl _, rfl, by simp, by simpa using unhide HK, unhide HW⟩
        case round =>
          obtain ⟨j, d, r2, rfl, hj, hji, hrd, hd, hk2, hw2⟩ := hrel
          have HJ := hide hj
          have HRD := hide hrd
          have HD := hide hd
          have HK2 := hide hk2
          have HW2 := hide hw2
          clear hj hrd hd hk2 hw2
          have fin : (∀ t, r2.head? = some t → ¬ cm e t < 0) → ∀ W, iblk W D 3 (X ++ (r2.reverse ++ (e :: (d.reverse ++ (rest' ++ Y))))) → But D w W → ∃ (i' : Nat) (r' rest2 : List Int), Value.int .i64 ((i : Int) + 1) = .int .i64 (i' : Int) ∧ p + r'.length = i' ∧ 1 ≤ r'.length ∧ i' + rest2.length = q ∧ (∀ x ∈ r', ok x) ∧ (∀ x ∈ rest2, ok x) ∧ iblk W D 3 (X ++ (r'.reverse ++ (rest2 ++ Y))) ∧ F = X ++ ((srtR cm r' rest2).reverse ++ Y) ∧ But D w W := by
            intro hst W hW hB
            have hins : insR cm e r = d ++ (e :: r2) := by rw [unhide HRD, insR_done cm e d r2 (unhide HD), insR_stop cm e r2 hst]
            refine ⟨i + 1, insR cm e r, rest', by simp, ?_, ?_, ?_, ?_, ?_, ?_, ?_, hB⟩
            · rw [insR_len]; have := unhide HPR; omega
            · rw [insR_len]; omega
            · have := unhide HR; simp at this; omega
            · rw [hins]
              intro x hx
              have hr := unhide HOR
              rw [unhide HRD] at hr
              rcases List.mem_append.1 hx with h1 | h1
              · exact hr x (List.mem_append.2 (.inl h1))
              · rcases List.mem_cons.1 h1 with h2 | h2
                · rw [h2]; exact unhide HOS e (by simp)
                · exact hr x (List.mem_append.2 (.inr h2))
            · exact fun x hx => unhide HOS x (by simp [hx])
            · rw [hins]
              have e1 : X ++ ((d ++ (e :: r2)).reverse ++ (rest' ++ Y)) = X ++ (r2.reverse ++ (e :: (d.reverse ++ (rest' ++ Y)))) := by simp
              rw [e1]
              exact hW
            · rw [unhide HFF]; rfl
          have FIN := hide fin
          clear fin
          cases r2 with
          | nil =>
            have ej : j = p := by have := unhide HJ; simp at this; omega
            subst ej
            have g1 : decide ((j : Int) < (j : Int)) = false := decide_eq_false (by omega)
            have g2 : ¬ (j : Int) < (j : Int) := by omega
            go_wp2_with fail
            go_quiet (fail)
            go_wp2_with fail
            go_roundw
            case rel => exact unhide FIN (fun t ht => by cases ht) _ (unhide HK2) (but_dn (unhide HW2) _)
            case measure => simp only [intOf]; omega
          | cons t r3 =>
            obtain ⟨jn, hjn⟩ : ∃ jn, jn = p + r3.length := ⟨_, rfl⟩
            have ej : j = jn + 1 := by have := unhide HJ; simp at this; omega
            subst ej
            have hPl : (X ++ r3.reverse).length = jn := by rw [List.length_append, List.length_reverse, unhide HP]; exact hjn.symm
            have hv := unhide HK2
            rw [row_view] at hv
            obtain ⟨c0, c1⟩ := sw_at0 (X ++ r3.reverse) (d.reverse ++ (rest' ++ Y)) t e
            rw [hPl] at c0 c1
            have k0 := hv.cell c0
            have k1 := hv.cell c1
            have fz : ∀ o, wr.frozen? ⟨D, o, none⟩ = false := hv.frozen
            have hset := sw_set (X ++ r3.reverse) (d.reverse ++ (rest' ++ Y)) t e
            rw [hPl] at hset
            have HV := hide hv
            have HSET := hide hset
            have g1 : decide ((p : Int) < (jn : Int) + 1) = true := decide_eq_true (by omega)
            have g2 : (p : Int) < (jn : Int) + 1 := by omega
            have g3 : (jn : Int) + 1 < (m : Int) := by omega
            have g4 : (jn : Int) < (m : Int) := by omega
            have g5 : (0 : Int) ≤ (jn : Int) := Int.natCast_nonneg _
            have g6 : ((jn : Int) + 1).toNat = jn + 1 := by omega
            have g7 : (0 : Int) ≤ (jn : Int) + 1 := by omega
            have g8 : IntKind.i64.wrap ((jn : Int) + 1 - 1) = (jn : Int) := by rw [show (jn : Int) + 1 - 1 = (jn : Int) by omega, IntKind.wrap_i64]; omega
            have g9 : (jn : Int).toNat = jn := by omega
            have g10 : IntKind.i64.wrap (jn : Int) = (jn : Int) := by rw [IntKind.wrap_i64]; omega
            have ec : (((jn + 1 : Nat)) : Int) = (jn : Int) + 1 := by omega
            rw [ec]
            have HJN := hide hjn
            have hoke := unhide HOS e (by simp)
            have hokt : ok t := by
              have hr := unhide HOR
              rw [unhide HRD] at hr
              exact hr t (by simp)
            have HOE := hide hoke
            have HOT := hide hokt
            clear hjn hPl hv c0 c1 hset hoke hokt
            by_cases hc : cm e t < 0
            · have hcd : decide (cm e t < 0) = true := decide_eq_true hc
              go_wp2_with fail
              go_region_held3 (fun wx => wx.cell? ⟨D, jn + 1, none⟩ = some (.int .i64 e) ∧ wx.cell? ⟨D, jn, none⟩ = some (.int .i64 t))
                (simp (maxDischargeDepth := 12) [go_sem, le1, lt1, *])
                (first
                | (go_at_call 44; refine ((unhide HH).ans _ e t ((unhide HH).keep w _ (unhide HE) (by repeat (first | exact unhide HW2 | refine But.drew ?_))) (unhide HOE) (unhide HOT)).mono ?_; rintro e' w' ⟨rfl, hs⟩; have hsc := hs.cell; have HSM := hide hs; clear hs))
              all_goals
                have HVw : Hid (iblk w' D 3 ((X ++ r3.reverse) ++ (t :: e :: (d.reverse ++ (rest' ++ Y))))) := hide (by repeat (first | exact unhide HV | refine Same.iblk (unhide HSM) ?_))
                have HBw : Hid (But D w w') := hide (by repeat (first | exact unhide HW2 | refine But.sm ?_ (unhide HSM) | refine But.drew ?_))
                have fw : ∀ o, w'.frozen? ⟨D, o, none⟩ = false := (unhide HVw).frozen
                have k2 := (unhide HVw).cell (m := jn) (by have := sw_at0 (X ++ r3.reverse) (d.reverse ++ (rest' ++ Y)) t e; rw [show (X ++ r3.reverse).length = jn by rw [List.length_append, List.length_reverse, unhide HP, unhide HJN]] at this; exact this.1)
                have k3 := (unhide HVw).cell (m := jn + 1) (by have := sw_at0 (X ++ r3.reverse) (d.reverse ++ (rest' ++ Y)) t e; rw [show (X ++ r3.reverse).length = jn by rw [List.length_append, List.length_reverse, unhide HP, unhide HJN]] at this; exact this.2)
                clear hsc
                go_wp2_with fail
                go_region
                all_goals
                  go_wp2_with fail
                  go_roundw
                  case rel =>
                    refine ⟨jn, d ++ [t], r3, by simp, (unhide HJN).symm, by omega, by rw [unhide HRD]; simp, ?_, ?_, ?_⟩
                    · intro x hx
                      rcases List.mem_append.1 hx with h1 | h1
                      · exact unhide HD x h1
                      · simp only [List.mem_singleton] at h1; rw [h1]; exact hc
                    · have h1 := ((unhide HVw).set (jn + 1) t).set jn e
                      rw [unhide HSET] at h1
                      have e1 : (X ++ r3.reverse) ++ (e :: t :: (d.reverse ++ (rest' ++ Y))) = X ++ (r3.reverse ++ (e :: ((d ++ [t]).reverse ++ (rest' ++ Y)))) := by simp
                      rw [e1] at h1
                      exact h1
                    · repeat (first | exact unhide HBw | refine But.setCell ?_ _ _ | refine But.drew ?_ | refine but_dn ?_ _)
                  case measure => simp only [intOf]; omega
            · have hcd : decide (cm e t < 0) = false := decide_eq_false hc
              go_wp2_with fail
              go_region_held3 (fun wx => wx.cell? ⟨D, jn + 1, none⟩ = some (.int .i64 e) ∧ wx.cell? ⟨D, jn, none⟩ = some (.int .i64 t))
                (simp (maxDischargeDepth := 12) [go_sem, le1, lt1, *])
                (first
                | (go_at_call 44; refine ((unhide HH).ans _ e t ((unhide HH).keep w _ (unhide HE) (by repeat (first | exact unhide HW2 | refine But.drew ?_))) (unhide HOE) (unhide HOT)).mono ?_; rintro e' w' ⟨rfl, hs⟩; have hsc := hs.cell; have HSM := hide hs; clear hs))
              all_goals
                go_wp2_with fail
                go_roundw
                case rel => exact unhide FIN (fun x hx => by cases hx; exact hc) _ (by repeat (first | exact unhide HK2 | refine Same.iblk (unhide HSM) ?_)) (by repeat (first | exact unhide HW2 | refine But.sm ?_ (unhide HSM) | refine But.drew ?_))
                case measure => simp only [intOf]; omega
      · have i1 : decide ((i : Int) < (q : Int)) = false := decide_eq_false (by omega)
        have hrest : rest = [] := List.eq_nil_of_length_eq_zero (by have := unhide HR; omega)
        subst hrest
        go_wp2_with fail
        refine bodyPost_end (v := .tuple #[]) (by simp [results, Try.results61, go_sem]) rfl ⟨rfl, ?_, unhide HW⟩
        rw [unhide HFF]
        exact unhide HK
end Go.Proofs.Ytmoobfbjehgdnaa
