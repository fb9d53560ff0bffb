/-
  The loudest pulse, both sides.
-/
import Derived.Test.YtgocgcnpgmamiaaSwM
namespace Go.Proofs.Ytgocgcnpgmamiaa
open Go.ChangeShapes Go.WideShapes Go.ChangeAt Go.RowKit
set_option linter.unusedVariables false
set_option linter.unusedSimpArgs false
attribute [local go_sem] run_store_flt run_store_cpx

/-- how loud the last mass is -/
def lod (n : Nat) (L : List Nat) (x : Nat) : Option Nat := tsq (swf L x (n - 1) 0)
theorem sfx_last (L : List Nat) (wb m d : Nat) : (sfx L wb m (d + 1))[d * 2]? = some (swf L wb m 0).1 ∧ (sfx L wb m (d + 1))[d * 2 + 1]? = some (swf L wb m 0).2 := by
  induction d with
  | zero => exact ⟨rfl, rfl⟩
  | succ d ih =>
    have e : sfx L wb m (d + 1 + 1) = (swf L wb m (d + 1)).1 :: (swf L wb m (d + 1)).2 :: sfx L wb m (d + 1) := rfl
    rw [e, show (d + 1) * 2 = d * 2 + 1 + 1 by omega]
    exact ih
/-- after so many pulses: the code, the loudest and how loud it is -/
def ldG (n : Nat) (L P : List Nat) : Nat → Int × Nat × Option Nat
  | 0 => (0, 0, some 0)
  | i + 1 => if (ldG n L P i).1 = 0 then (if swC n L (P.getD i 0) = 0 then (if (i == 0 || ford .f64 (lod n L (P.getD i 0)) (ldG n L P i).2.2 == some .gt) = true then (0, i, lod n L (P.getD i 0)) else ldG n L P i) else (swC n L (P.getD i 0), 0, some 0)) else ldG n L P i
def ldR (n m : Nat) (L P : List Nat) : Int × Nat × Option Nat := if 4096 < n ∨ 4096 < m then (2, 0, some 0) else if 1 ≤ m ∧ m ≤ 1000 then ldG n L P m else (1, 0, some 0)
theorem ldG_succ (n : Nat) (L P : List Nat) (i : Nat) : ldG n L P (i + 1) = if (ldG n L P i).1 = 0 then (if swC n L (P.getD i 0) = 0 then (if (i == 0 || ford .f64 (lod n L (P.getD i 0)) (ldG n L P i).2.2 == some .gt) = true then (0, i, lod n L (P.getD i 0)) else ldG n L P i) else (swC n L (P.getD i 0), 0, some 0)) else ldG n L P i := rfl
theorem ldG_stay {n : Nat} {L P : List Nat} {i m : Nat} (h : (ldG n L P i).1 ≠ 0) (him : i ≤ m) : ldG n L P m = ldG n L P i := by
  obtain ⟨d, rfl⟩ : ∃ d, m = i + d := ⟨m - i, by omega⟩
  clear him
  induction d with
  | zero => rfl
  | succ d ih =>
    show ldG n L P (i + d + 1) = _
    rw [ldG_succ, ih, if_neg h]
theorem ldG_bad {n : Nat} {L P : List Nat} {i m x : Nat} (h0 : (ldG n L P i).1 = 0) (hx : P[i]? = some x) (hc : swC n L x ≠ 0) (him : i < m) : ldG n L P m = (swC n L x, 0, some 0) := by
  have e : P.getD i 0 = x := by rw [List.getD_eq_getElem?_getD, hx]; rfl
  have h1 : ldG n L P (i + 1) = (swC n L x, 0, some 0) := by
    rw [ldG_succ, if_pos h0, e, if_neg hc]
  rw [ldG_stay (i := i + 1) (by rw [h1]; exact hc) him, h1]
theorem ldG_next {n : Nat} {L P : List Nat} {i x : Nat} {b : Bool} (h0 : (ldG n L P i).1 = 0) (hx : P[i]? = some x) (hc : swC n L x = 0) (hb : (i == 0 || ford .f64 (lod n L x) (ldG n L P i).2.2 == some .gt) = b) : ldG n L P (i + 1) = if b = true then (0, i, lod n L x) else ldG n L P i := by
  have e : P.getD i 0 = x := by rw [List.getD_eq_getElem?_getD, hx]; rfl
  rw [ldG_succ, if_pos h0, e, if_pos hc, hb]
/-- the last of the tones -/
theorem last_tone {w : World} {B n x : Nat} {L : List Nat} {v : Value} (hc : swC n L x = 0) (h : FAns .f64 w B 33 2 v (swN n L x) (swF n L x)) : ∃ (m g cap t0 t1 : Nat), n = m + 1 ∧ n ≤ 20 ∧ v = .slice (some ⟨g, 0, none⟩) n cap ∧ w.cell? ⟨g, m * 2, none⟩ = some (.float .f64 t0) ∧ w.cell? ⟨g, m * 2 + 1, none⟩ = some (.float .f64 t1) ∧ tsq (tv t0 t1) = lod n L x := by
  have hn : 1 ≤ n ∧ n ≤ 20 := by
    unfold swC at hc
    split at hc
    · cases hc
    · split at hc
      · rename_i hok
        unfold swOk at hok
        simp only [Bool.and_eq_true, decide_eq_true_eq] at hok
        exact hok.1.1
      · cases hc
  obtain ⟨m, rfl⟩ : ∃ m, n = m + 1 := ⟨n - 1, by omega⟩
  unfold swN swF at h
  rw [if_pos hc, if_pos hc, Nat.add_sub_cancel] at h
  obtain ⟨R, hr, hF⟩ := h
  obtain ⟨g, cap, rfl, _⟩ := hr.full (by omega)
  obtain ⟨h1, h2⟩ := sfx_last L x m m
  rw [← hF, List.getElem?_map] at h1 h2
  obtain ⟨t0, e0, f0⟩ := map_some' h1
  obtain ⟨t1, e1, f1⟩ := map_some' h2
  refine ⟨m, g, cap, t0, t1, rfl, hn.2, rfl, hr.cellAt e0, hr.cellAt e1, ?_⟩
  unfold lod tv
  rw [f0, f1]
  rfl
set_option maxHeartbeats 1000000 in
theorem loudP (u : Option Addr) (p po n c : Nat) (L : List Nat) (x : Nat) (w : World) (hl : L.length = n * 3) (hn : n ≤ 9223372036854775807) (hu : Fls .f64 w u p po L) :
    Calls Try.prog 53 #[.slice u n c, .float .f64 x] w fun e w' => (∃ b, e = .returned (.tuple #[.float .f64 b, .int .i64 (swC n L x)]) ∧ (swC n L x = 0 → Fv .f64 b = lod n L x)) ∧ Below w.heap.size w w' := by
  have HS := hide (swayP_any u p po n c L x w hl hn hu)
  clear hl hu
  go_enter Try.func53, Try.ntmps53
  go_wp2_with fail
  refine (unhide HS).mono ?_
  rintro e W1 ⟨⟨v, rfl, hv⟩, hb⟩
  have HB := hide hb
  have HV := hide hv
  clear hb hv
  by_cases hc : swC n L x = 0
  · obtain ⟨m, g, cap, t0, t1, hnm, n20, rfl, c0, c1, ht⟩ := last_tone hc (unhide HV)
    have w1 : IntKind.i64.wrap ((n : Int) - 1) = (m : Int) := by rw [show (n : Int) - 1 = (m : Int) by omega]; exact wrap_i (by omega) (by omega)
    have m0 : (0 : Int) ≤ (m : Int) := Int.natCast_nonneg _
    have mlt : (m : Int) < (n : Int) := by omega
    have mlt2 : m < n := by omega
    have HT := hide ht
    have HC := hide hc
    generalize hC : swC n L x = C at *
    have hcz : (C != 0) = false := by rw [hc]; rfl
    have HHC := hide hC
    clear hnm ht hc hC HV
    go_wp2_with fail
    refine (sqP _ _ _).mono ?_
    rintro e W2 ⟨⟨r, rfl, hr⟩, hs⟩
    have HR := hide hr
    have HS2 := hide hs
    clear hr hs
    go_wp2_with fail
    refine bodyPost_ret (v := .tuple #[.float .f64 r, .int .i64 0]) (by simp [results, Try.results53, go_sem]) rfl ⟨⟨r, by rw [unhide HHC, unhide HC], fun _ => by rw [unhide HR]; exact unhide HT⟩, ?_⟩
    exact (ba (unhide HB) _).trans (unhide HS2).bel
  · generalize hC : swC n L x = C at *
    have hcz : (C != 0) = true := by simp [hc]
    have HC := hide hc
    have HHC := hide hC
    clear hc hC
    go_wp2_with fail
    exact bodyPost_ret (v := .tuple #[.float .f64 0, .int .i64 C]) (by simp [results, Try.results53, go_sem]) rfl ⟨⟨0, by rw [unhide HHC], fun h => absurd ((unhide HHC).symm.trans h) (unhide HC)⟩, unhide HB⟩

set_option maxHeartbeats 2000000 in
theorem ldP_any (u v : Option Addr) (p po q qo n c m d : Nat) (L P : List Nat) (w : World) (hl : L.length = n * 3) (hn : n ≤ 9223372036854775807) (hu : Fls .f64 w u p po L) (hp : P.length = m) (hm : m ≤ 9223372036854775807) (hv : Fls .f64 w v q qo P) :
    Calls Try.prog 14 #[.slice u n c, .slice v m d] w fun e w' => (∃ b, e = .returned (.tuple #[.int .i64 ((ldR n m L P).2.1 : Int), .float .f64 b, .int .i64 (ldR n m L P).1]) ∧ Fv .f64 b = (ldR n m L P).2.2) ∧ Below w.heap.size w w' := by
  have HU := hide hu
  have HV := hide hv
  have HL := hide hl
  have HP := hide hp
  have n0 : (0 : Int) ≤ (n : Int) := Int.natCast_nonneg _
  have m0 : (0 : Int) ≤ (m : Int) := Int.natCast_nonneg _
  clear hu hv hl hp
  by_cases h1 : 4096 < n
  · have t1 : decide ((4096 : Int) < (n : Int)) = true := decide_eq_true (by omega)
    have hr : ldR n m L P = (2, 0, some 0) := by unfold ldR; rw [if_pos (.inl h1)]
    rw [hr]
    go_enter Try.func14, Try.ntmps14
    go_wp2_with fail
    exact bodyPost_ret (v := .tuple #[.int .i64 0, .float .f64 0, .int .i64 2]) (by simp [results, Try.results14, go_sem]) rfl ⟨⟨0, rfl, rfl⟩, Below.refl _ _⟩
  have t1 : decide ((4096 : Int) < (n : Int)) = false := decide_eq_false (by omega)
  by_cases h2 : 4096 < m
  · have t2 : decide ((4096 : Int) < (m : Int)) = true := decide_eq_true (by omega)
    have hr : ldR n m L P = (2, 0, some 0) := by unfold ldR; rw [if_pos (.inr h2)]
    rw [hr]
    go_enter Try.func14, Try.ntmps14
    go_wp2_with fail
    exact bodyPost_ret (v := .tuple #[.int .i64 0, .float .f64 0, .int .i64 2]) (by simp [results, Try.results14, go_sem]) rfl ⟨⟨0, rfl, rfl⟩, Below.refl _ _⟩
  have t2 : decide ((4096 : Int) < (m : Int)) = false := decide_eq_false (by omega)
  by_cases h3 : 1 ≤ m ∧ m ≤ 1000
  · have hr : ldR n m L P = ldG n L P m := by unfold ldR; rw [if_neg (by omega), if_pos h3]
    rw [hr]
    clear hr
    have hb1 : (decide ((1 : Int) ≤ (m : Int)) && decide ((m : Int) ≤ 1000)) = true := by rw [decide_eq_true (by omega), decide_eq_true (by omega)]; rfl
    go_enter Try.func14, Try.ntmps14
    go_wp2_with fail
    refine (bti_any _ _ _ _).mono ?_
    rintro e w' ⟨rfl, hq⟩
    rw [hq]
    clear hq
    rw [hb1]
    go_wp2_with fail
    go_loopw [7, 8, 27] (fun s t x W => ∃ (i b : Nat), s = .int .i64 ((ldG n L P i).2.1 : Int) ∧ t = .float .f64 b ∧ x = .int .i64 (i : Int) ∧ i ≤ m ∧ (ldG n L P i).1 = 0 ∧ Fv .f64 b = (ldG n L P i).2.2 ∧ Below w.heap.size w W) (fun _ _ s _ => m - (intOf s).toNat)
    case atStart => exact ⟨0, 0, rfl, rfl, rfl, Nat.zero_le _, rfl, rfl, Below.refl _ _⟩
    case round =>
      obtain ⟨i, b, rfl, rfl, rfl, hi, hg, hF, hw⟩ := hrel
      have HG := hide hg
      have HF := hide hF
      have HW := hide hw
      have i0 : (0 : Int) ≤ (i : Int) := Int.natCast_nonneg _
      generalize hbest : (ldG n L P i).2.1 = best at *
      have HBE := hide hbest
      clear hg hF hw hbest
      by_cases h : i < m
      · have i1 : (i : Int) < (m : Int) := by omega
        have iz : decide ((i : Int) < (m : Int)) = true := decide_eq_true i1
        obtain ⟨x, hx⟩ := get_some (unhide HP) h
        obtain ⟨rfl, qw, k0⟩ := ((unhide HV).bel (unhide HW)).at hx
        have HX := hide hx
        clear hx qw
        go_wp2_with fail
        refine (loudP u p po n c L x _ (unhide HL) hn ((unhide HU).bel (unhide HW))).mono ?_
        rintro e W1 ⟨⟨r, rfl, hr⟩, hb⟩
        have HB := hide hb
        have HR := hide hr
        clear hb hr k0
        by_cases hc : swC n L x = 0
        · have HC := hide hc
          have HRV := hide (unhide HR hc)
          generalize hC : swC n L x = C at *
          have hcz : (C != 0) = false := by rw [hc]; rfl
          have HHC := hide hC
          clear hc HR hC
          have HFIN := hide (unhide HB)
          have horder : (FloatKind.f64.format.order r b == some .gt) = (ford .f64 (lod n L x) (ldG n L P i).2.2 == some .gt) := by rw [order_fv, unhide HRV, unhide HF]
          cases hgt : (ford .f64 (lod n L x) (ldG n L P i).2.2 == some .gt) with
          | true =>
            rw [hgt] at horder
            have HN := hide (ldG_next (b := true) (unhide HG) (unhide HX) ((unhide HHC).trans (unhide HC)) (by rw [hgt]; simp))
            clear hgt
            by_cases hi0 : i = 0
            · subst hi0
              go_wp2_with fail
              go_roundw
              case rel => exact ⟨0 + 1, r, by rw [unhide HN]; rfl, rfl, by simp, h, by rw [unhide HN]; rfl, by rw [unhide HN]; exact unhide HRV, bc (unhide HW) (unhide HB)⟩
              case measure => simp only [intOf]; omega
            · have iz0 : ((i : Int) == 0) = false := by simp; omega
              go_wp2_with fail
              go_roundw
              case rel => exact ⟨i + 1, r, by rw [unhide HN]; rfl, rfl, by simp, h, by rw [unhide HN]; rfl, by rw [unhide HN]; exact unhide HRV, bc (unhide HW) (unhide HB)⟩
              case measure => simp only [intOf]; omega
          | false =>
            rw [hgt] at horder
            by_cases hi0 : i = 0
            · subst hi0
              have HN := hide (ldG_next (b := true) (unhide HG) (unhide HX) ((unhide HHC).trans (unhide HC)) (by simp))
              clear hgt
              go_wp2_with fail
              go_roundw
              case rel => exact ⟨0 + 1, r, by rw [unhide HN]; rfl, rfl, by simp, h, by rw [unhide HN]; rfl, by rw [unhide HN]; exact unhide HRV, bc (unhide HW) (unhide HB)⟩
              case measure => simp only [intOf]; omega
            · have iz0 : ((i : Int) == 0) = false := by simp; omega
              have HN := hide (ldG_next (b := false) (unhide HG) (unhide HX) ((unhide HHC).trans (unhide HC)) (by rw [hgt]; simp; exact hi0))
              clear hgt
              go_wp2_with fail
              go_roundw
              case rel => exact ⟨i + 1, b, by rw [unhide HN, ← unhide HBE]; rfl, rfl, by simp, h, by rw [unhide HN]; exact unhide HG, by rw [unhide HN]; exact unhide HF, bc (unhide HW) (unhide HB)⟩
              case measure => simp only [intOf]; omega
        · have HC := hide hc
          generalize hC : swC n L x = C at *
          have hcz : (C != 0) = true := by simp [hc]
          have HHC := hide hC
          have HE := hide (ldG_bad (m := m) (unhide HG) (unhide HX) (by rw [hC]; exact hc) h)
          clear hc hC
          go_wp2_with fail
          exact bodyPost_ret (v := .tuple #[.int .i64 0, .float .f64 0, .int .i64 C]) (by simp [results, Try.results14, go_sem]) rfl ⟨⟨0, by rw [unhide HE, unhide HHC]; rfl, by rw [unhide HE]; rfl⟩, bc (unhide HW) (unhide HB)⟩
      · have iz : decide ((i : Int) < (m : Int)) = false := decide_eq_false (by omega)
        have en : i = m := by omega
        subst en
        go_wp2_with fail
        exact bodyPost_ret (v := .tuple #[.int .i64 (best : Int), .float .f64 b, .int .i64 0]) (by simp [results, Try.results14, go_sem]) rfl ⟨⟨b, by rw [unhide HBE, unhide HG], unhide HF⟩, unhide HW⟩
  · have hr : ldR n m L P = (1, 0, some 0) := by unfold ldR; rw [if_neg (by omega), if_neg h3]
    rw [hr]
    have hb1 : (decide ((1 : Int) ≤ (m : Int)) && decide ((m : Int) ≤ 1000)) = false := by
      by_cases h4 : 1 ≤ m
      · rw [decide_eq_false (p := (m : Int) ≤ 1000) (by omega), Bool.and_false]
      · rw [decide_eq_false (p := (1 : Int) ≤ (m : Int)) (by omega)]; rfl
    go_enter Try.func14, Try.ntmps14
    go_wp2_with fail
    refine (bti_any _ _ _ _).mono ?_
    rintro e w' ⟨rfl, hq⟩
    rw [hq]
    clear hq
    rw [hb1]
    go_wp2_with fail
    exact bodyPost_ret (v := .tuple #[.int .i64 0, .float .f64 0, .int .i64 1]) (by simp [results, Try.results14, go_sem]) rfl ⟨⟨0, rfl, rfl⟩, Below.refl _ _⟩
end Go.Proofs.Ytgocgcnpgmamiaa
