/-
  Numbers calmed, by the program and by the model.
-/
import Derived.Test.YtgocgcnpgmamiaaFlOps
namespace Go.Proofs.Ytgocgcnpgmamiaa
open Go.ChangeShapes Go.WideShapes Go.ChangeAt Go.RowKit
set_option linter.unusedVariables false
set_option linter.unusedSimpArgs false
attribute [local go_sem] run_store_flt run_store_cpx

theorem cval {k : FloatKind} {x : Nat} {s : Bool} {m n : Nat} (h : k.format.read x = .number s m (-(n : Int))) : val k x * ((2 ^ n : Nat) : Rat) = sg s * (m : Rat) := by
  have h1 := p2_sub 0 (n : Int)
  rw [show (0 : Int) - (n : Int) = -(n : Int) by omega, p2_nat] at h1
  have h3 : p2 0 = 1 := rfl
  rw [h3] at h1
  unfold val
  rw [h]
  simp only [dval]
  grind
theorem val_m : val .f64 4696837146684686336 = 1000000 := by
  have := cval (k := .f64) (x := 4696837146684686336) (s := false) (m := 8589934592000000) (n := 33) rfl
  have e : ((2 ^ 33 : Nat) : Rat) = 8589934592 := rfl
  rw [e] at this
  simp only [sg] at this
  grind
theorem val_nm : val .f64 13920209183539462144 = -1000000 := by
  have := cval (k := .f64) (x := 13920209183539462144) (s := true) (m := 8589934592000000) (n := 33) rfl
  have e : ((2 ^ 33 : Nat) : Rat) = 8589934592 := rfl
  rw [e] at this
  simp only [sg] at this
  grind
theorem btw_val {k : FloatKind} {x lo hi : Nat} (hlo : isNum k lo) (hhi : isNum k hi) (h : fin k (Fv k x) (Fv k lo) (Fv k hi) = true) : val k lo ≤ val k x ∧ val k x ≤ val k hi := by
  have hx := num_of_between hlo hhi h
  unfold fin at h
  rw [← order_fv, ← order_fv, order_val hx hlo, order_val hx hhi] at h
  simp only [Bool.and_eq_true] at h
  obtain ⟨h1, h2⟩ := h
  constructor
  · split at h1
    · simp at h1
    · grind
  · split at h2
    · grind
    · split at h2
      · grind
      · simp at h2
theorem smp_val {x : Nat} (h : smp x = true) : -1000000 ≤ val .f64 x ∧ val .f64 x ≤ 1000000 := by
  have := btw_val num_nm num_m h
  rw [val_m, val_nm] at this
  exact this
theorem p2_big : (1000000 : Rat) ≤ p2 20 := by
  have h2 : p2 20 = 1048576 := by rw [show (20 : Int) = ((20 : Nat) : Int) from rfl, p2_nat]; rfl
  rw [h2]
  grind
/-- what a right number is in the lesser kind -/
theorem cvt_some {x : Nat} (h : smp x = true) : ∃ y, floatToFloatBits .f64 x .f32 = some y ∧ Nr .f32 y (val .f64 x) (1 / 10000000 * 1000000 + e2) := by
  obtain ⟨s, m, e, hr⟩ := smp_num h
  obtain ⟨h1, h2⟩ := smp_val h
  have hv : val .f64 x = dval (.number s m e) := by unfold val; rw [hr]
  have hn := near_dat .f32 (.number s m e) s m e rfl 1000000 (by rw [← hv]; grind) (by rw [← hv]; grind) (Rat.le_trans p2_big (p2_le (by decide)))
  refine ⟨_, ?_, by rw [hv]; exact hn⟩
  obtain ⟨s', m', e', hr'⟩ := hn.1
  have hdec : FloatKind.f64.decode x = .number s m e := hr
  have hinf : (FloatKind.f32.decode (FloatKind.f32.encode (.number s m e))).isInfinity = false := by
    show (FloatKind.f32.format.read (FloatKind.f32.format.write (.number s m e))).isInfinity = false
    rw [hr']
    rfl
  unfold floatToFloatBits
  rw [if_neg (by decide), hdec]
  show (if (FloatKind.f32.decode (FloatKind.f32.encode (.number s m e))).isInfinity = true then none else some (FloatKind.f32.encode (.number s m e))) = _
  rw [if_neg (by rw [hinf]; simp)]
  rfl
def cvt (x : Nat) : Option Nat := floatToFloatBits .f64 x .f32
theorem cvt_run {x : Nat} (h : smp x = true) : ∃ y, (∀ W : World, (convert 28 41 (.float .f64 x)).run Try.prog W = .ok (.float .f32 y) W) ∧ Fv .f32 y = cvt x := by
  obtain ⟨y, hy, hn⟩ := cvt_some h
  exact ⟨y, fun W => run_convert_float_float W 28 41 .f64 .f32 x y (by rw [Try.underlying28]; rfl) Try.underlying41 hy, by unfold cvt; rw [hy]; exact hn.1.fv⟩
/-- the calmed numbers -/
def cl (L : List Nat) (sh : Option Nat) : Nat → Option Nat
  | 0 => cvt (L.getD 0 0)
  | i + 1 => fop .add .f32 (cl L sh i) (fop .mul .f32 sh (fop .sub .f32 (cvt (L.getD (i + 1) 0)) (cl L sh i)))
def clF (L : List Nat) (sh : Option Nat) : Nat → List (Option Nat)
  | 0 => []
  | m + 1 => clF L sh m ++ [cl L sh m]
theorem clF_len (L : List Nat) (sh : Option Nat) (m : Nat) : (clF L sh m).length = m := by
  induction m with
  | zero => rfl
  | succ m ih => simp [clF, ih]
def shOk (sh : Nat) : Bool := fin .f32 (Fv .f32 sh) (Fv .f32 0) (Fv .f32 1065353216)
def caOk (n : Nat) (L : List Nat) (sh : Nat) : Bool := decide (n ≤ 1000) && shOk sh && L.all smp
def caC (n : Nat) (L : List Nat) (sh : Nat) : Int := if 4096 < n then 2 else if caOk n L sh then 0 else 1
def caN (n : Nat) (L : List Nat) (sh : Nat) : Nat := if caC n L sh = 0 then n else 0
def caF (n : Nat) (L : List Nat) (sh : Nat) : List (Option Nat) := if caC n L sh = 0 then clF L (Fv .f32 sh) n else []
theorem f32_info : (Try.prog.info? 41).map (fun i => (i.zero, i.size, i.bytes)) = some (some (.float .f32 0), 1, 4) := by kernel_rfl
theorem ca_none {n : Nat} {L : List Nat} {sh : Nat} {w : World} {B : Nat} {v : Value} (h : caC n L sh ≠ 0) (hv : FAns .f32 w B 41 1 v 0 []) : FAns .f32 w B 41 1 v (caN n L sh) (caF n L sh) := by
  unfold caN caF
  rw [if_neg h, if_neg h]
  exact hv
theorem ca_some {n : Nat} {L : List Nat} {sh : Nat} {w : World} {B : Nat} {v : Value} (h : caC n L sh = 0) (hv : FAns .f32 w B 41 1 v n (clF L (Fv .f32 sh) n)) : FAns .f32 w B 41 1 v (caN n L sh) (caF n L sh) := by
  unfold caN caF
  rw [if_pos h, if_pos h]
  exact hv
theorem fnil1 {fk : FloatKind} {w : World} {B t k : Nat} : FAns fk w B t k (.slice none 0 0) 0 [] := ⟨[], own_nil w t B k, rfl⟩
theorem fput1 (F : List (Option Nat)) (R : List Nat) (m n a : Nat) (A : Option Nat) (hR : R.length = n) (hm : m < n) (hF : (R.take m).map (Fv .f32) = F) (ha : Fv .f32 a = A) : ((R.set m a).take (m + 1)).map (Fv .f32) = F ++ [A] := by
  rw [List.take_add_one, List.getElem?_set_self (by omega), List.take_set_of_le (by omega)]
  simp [hF, ha]
theorem cl_at {L R : List Nat} {sh : Option Nat} {j m : Nat} (hF : (R.take m).map (Fv .f32) = clF L sh m) (hj : j + 1 = m) (hR : m ≤ R.length) : ∃ y, R[j]? = some y ∧ Fv .f32 y = cl L sh j := by
  subst hj
  have h1 : ((R.take (j + 1)).map (Fv .f32))[j]? = (clF L sh (j + 1))[j]? := by rw [hF]
  rw [List.getElem?_map, List.getElem?_take_of_lt (by omega)] at h1
  have h2 : (clF L sh (j + 1))[j]? = some (cl L sh j) := by
    rw [clF, List.getElem?_append_right (by rw [clF_len]; omega), clF_len, Nat.sub_self]
    rfl
  rw [h2] at h1
  obtain ⟨y, hy, e⟩ := map_some' h1
  exact ⟨y, hy, e⟩
set_option maxHeartbeats 2000000 in
theorem caP_any (u : Option Addr) (p po n c : Nat) (L : List Nat) (sh : Nat) (w : World) (hl : L.length = n) (hn : n ≤ 9223372036854775807) (hu : Fls .f64 w u p po L) :
    Calls Try.prog 19 #[.slice u n c, .float .f32 sh] w fun e w' => (∃ v, e = .returned (.tuple #[v, .int .i64 (caC n L sh)]) ∧ FAns .f32 w' w.heap.size 41 1 v (caN n L sh) (caF n L sh)) ∧ Below w.heap.size w w' := by
  have HU := hide hu
  have HL := hide hl
  have n0 : (0 : Int) ≤ (n : Int) := Int.natCast_nonneg _
  have HC := hide (cns_any u p po n c L w hl hn hu)
  clear hu hl
  by_cases h1 : 4096 < n
  · have t1 : decide ((4096 : Int) < (n : Int)) = true := decide_eq_true (by omega)
    have hc : caC n L sh = 2 := by unfold caC; rw [if_pos h1]
    rw [hc]
    go_enter Try.func19, Try.ntmps19
    go_wp2_with fail
    exact bodyPost_ret (v := .tuple #[.slice none 0 0, .int .i64 2]) (by simp [results, Try.results19, go_sem]) rfl ⟨⟨_, rfl, ca_none (by rw [hc]; omega) fnil1⟩, Below.refl _ _⟩
  have t1 : decide ((4096 : Int) < (n : Int)) = false := decide_eq_false (by omega)
  have bad : ∀ (hk : caOk n L sh = false), caC n L sh = 1 := fun hk => by unfold caC; rw [if_neg h1, hk]; rfl
  by_cases h2 : n ≤ 1000
  · have t2 : decide ((1000 : Int) < (n : Int)) = false := decide_eq_false (by omega)
    cases ha : L.all smp with
    | false =>
      have hc := bad (by unfold caOk; rw [ha]; simp)
      rw [hc]
      have HC9 := hide hc
      clear hc bad
      rw [ha] at HC
      go_enter Try.func19, Try.ntmps19
      go_wp2_with fail
      refine (unhide HC).mono ?_
      rintro e w' ⟨rfl, hq⟩
      rw [hq]
      clear hq
      go_wp2_with fail
      exact bodyPost_ret (v := .tuple #[.slice none 0 0, .int .i64 1]) (by simp [results, Try.results19, go_sem]) rfl ⟨⟨_, rfl, ca_none (by rw [unhide HC9]; omega) fnil1⟩, Below.refl _ _⟩
    | true =>
      rw [ha] at HC
      cases hs : shOk sh with
      | false =>
        have hc := bad (by unfold caOk; rw [hs]; simp)
        rw [hc]
        have HC9 := hide hc
        clear hc bad
        unfold shOk at hs
        go_enter Try.func19, Try.ntmps19
        go_wp2_with fail
        refine (unhide HC).mono ?_
        rintro e w' ⟨rfl, hq⟩
        rw [hq]
        clear hq
        go_wp2_with fail
        refine (btw32 sh _ _ _).mono ?_
        rintro e w' ⟨rfl, hq⟩
        rw [hq]
        clear hq
        rw [hs]
        go_wp2_with fail
        exact bodyPost_ret (v := .tuple #[.slice none 0 0, .int .i64 1]) (by simp [results, Try.results19, go_sem]) rfl ⟨⟨_, rfl, ca_none (by rw [unhide HC9]; omega) fnil1⟩, Below.refl _ _⟩
      | true =>
        have hc : caC n L sh = 0 := by unfold caC; rw [if_neg h1, show caOk n L sh = true by unfold caOk; rw [hs, ha, decide_eq_true h2]; rfl]; rfl
        rw [hc]
        have HC9 := hide hc
        have HA := hide ha
        clear hc bad ha
        unfold shOk at hs
        have hmk := make_flts (fk := .f32) (P := Try.prog) 42 41 1 4 n Try.underlying42 (.float .f32 0) (by rfl) (by omega) f32_info (by omega) (by omega) w
        rw [Nat.mul_one] at hmk
        generalize hzz : fzeros n = Z at hmk
        have HZ : Hid (Z.length = n) := hide (by rw [← hzz]; simp [fzeros])
        clear hzz
        go_enter Try.func19, Try.ntmps19
        go_wp2_with fail
        refine (unhide HC).mono ?_
        rintro e w' ⟨rfl, hq⟩
        rw [hq]
        clear hq
        go_wp2_with fail
        refine (btw32 sh _ _ _).mono ?_
        rintro e w' ⟨rfl, hq⟩
        rw [hq]
        clear hq
        rw [hs]
        clear hs HC
        go_wp2_with fail
        have HG := hide (fblk_new (fk := .f32) w 41 Z)
        have HB0 := hide (ba (Below.refl w.heap.size w) (.cells (Z.map (Value.float .f32)).toArray 41))
        clear hmk
        go_loopw [30] (fun s W => ∃ (i : Nat) (R : List Nat), s = .int .i64 (i : Int) ∧ i ≤ n ∧ R.length = n ∧ fblk .f32 W w.heap.size 41 R ∧ (R.take i).map (Fv .f32) = clF L (Fv .f32 sh) i ∧ Below w.heap.size w W) (fun s _ => n - (intOf s).toNat)
        case atStart => exact ⟨0, Z, rfl, Nat.zero_le _, unhide HZ, unhide HG, rfl, unhide HB0⟩
        case round =>
          obtain ⟨i, R, rfl, hi, hR, hb, hF, hw⟩ := hrel
          have HB := hide hb
          have HW := hide hw
          have HR := hide hR
          have HF := hide hF
          clear hb hw HG HB0 hR hF
          have i0 : (0 : Int) ≤ (i : Int) := Int.natCast_nonneg _
          by_cases h : i < n
          · have i1 : (i : Int) < (n : Int) := by omega
            have iz : decide ((i : Int) < (n : Int)) = true := decide_eq_true i1
            obtain ⟨x, hx⟩ := get_some (unhide HL) h
            obtain ⟨rfl, pw, k0⟩ := ((unhide HU).bel (unhide HW)).at hx
            obtain ⟨y, hy, hyv⟩ := cvt_run (List.all_eq_true.1 (unhide HA) x (List.mem_of_getElem? hx))
            have HYV : Hid (Fv .f32 y = cvt (L.getD i 0)) := hide (by rw [List.getD_eq_getElem?_getD, hx]; exact hyv)
            obtain ⟨z, hz⟩ := get_some (unhide HR) h
            have c0 := (unhide HB).cell hz
            have fz := (unhide HB).frozen
            have lg := (unhide HB).lt
            clear hx pw hyv hz
            by_cases hi0 : i = 0
            · have t0 : decide ((0 : Int) < (i : Int)) = false := decide_eq_false (by omega)
              have t9 : ¬ (0 : Int) < (i : Int) := by omega
              have HI0 := hide hi0
              clear hi0
              go_wp2_with fail
              go_roundw
              case rel =>
                refine ⟨i + 1, R.set i y, by simp, h, by simp [unhide HR], (unhide HB).set i y, fput1 _ R i n y _ (unhide HR) h (unhide HF) ?_, bs (unhide HW) (Nat.le_refl _)⟩
                have hi0 := unhide HI0
                subst hi0
                exact unhide HYV
              case measure => simp only [intOf]; omega
            · obtain ⟨j, hj⟩ : ∃ j, j + 1 = i := ⟨i - 1, by omega⟩
              have t0 : decide ((0 : Int) < (i : Int)) = true := decide_eq_true (by omega)
              have ip : (0 : Int) < (i : Int) := by omega
              have wj : IntKind.i64.wrap ((i : Int) - 1) = (j : Int) := by rw [show (i : Int) - 1 = (j : Int) by omega]; exact wrap_i (by omega) (by omega)
              have j0 : (0 : Int) ≤ (j : Int) := Int.natCast_nonneg _
              have j1 : (j : Int) < (n : Int) := by omega
              have hji : j ≠ i := by omega
              have hij : i ≠ j := by omega
              obtain ⟨a, ea, hav⟩ := cl_at (unhide HF) hj (by rw [unhide HR]; omega)
              have ca := (unhide HB).cell ea
              have HAV := hide hav
              have HJ := hide hj
              clear ea hav hj
              go_wp2_with (refine upon_flt (by simp) ?_; intro _ _ _)
              go_roundw
              case rel =>
                refine ⟨i + 1, (R.set i y).set i _, by simp, h, by simp [unhide HR], ((unhide HB).set i y).set i _, ?_, bs (bel_dn' (bs (unhide HW) (Nat.le_refl _)) _) (Nat.le_refl _)⟩
                refine fput1 _ (R.set i y) i n _ _ (by simp [unhide HR]) h (by rw [List.take_set_of_le (Nat.le_refl _)]; exact unhide HF) ?_
                have hj := unhide HJ
                subst hj
                have hav := unhide HAV
                have hyv := unhide HYV
                simp [cl, *]
              case measure => simp only [intOf]; omega
          · have iz : decide ((i : Int) < (n : Int)) = false := decide_eq_false (by omega)
            have en : i = n := by omega
            subst en
            go_wp2_with fail
            refine bodyPost_ret (v := .tuple #[.slice (some ⟨w.heap.size, 0, none⟩) i i, .int .i64 0]) (by simp [results, Try.results19, go_sem]) rfl ⟨⟨_, rfl, ca_some (unhide HC9) ⟨R, ?_, ?_⟩⟩, unhide HW⟩
            · exact ⟨by rw [List.length_map, Nat.mul_one]; exact unhide HR, .inr ⟨_, i, (R.map (Value.float .f32)).toArray, rfl, Nat.le_refl _, unhide HB, Nat.le_refl _, by unfold maxLen; omega, by simp [unhide HR], by rw [List.take_of_length_le (by simp [unhide HR])]⟩⟩
            · have := unhide HF
              rwa [List.take_of_length_le (by rw [unhide HR]; exact Nat.le_refl _)] at this
  · have t2 : decide ((1000 : Int) < (n : Int)) = true := decide_eq_true (by omega)
    have hc := bad (by unfold caOk; rw [decide_eq_false h2]; rfl)
    rw [hc]
    have HC9 := hide hc
    clear hc bad
    go_enter Try.func19, Try.ntmps19
    go_wp2_with fail
    exact bodyPost_ret (v := .tuple #[.slice none 0 0, .int .i64 1]) (by simp [results, Try.results19, go_sem]) rfl ⟨⟨_, rfl, ca_none (by rw [unhide HC9]; omega) fnil1⟩, Below.refl _ _⟩
end Go.Proofs.Ytgocgcnpgmamiaa
