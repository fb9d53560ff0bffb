/-
  Which numbers and masses are right: both sides.
-/
import Derived.Test.YtgocgcnpgmamiaaFRows
import Derived.Test.YtgocgcnpgmamiaaVb
namespace Go.Proofs.Ytgocgcnpgmamiaa
open Go.ChangeShapes Go.WideShapes Go.ChangeAt Go.RowKit
set_option linter.unusedVariables false
set_option linter.unusedSimpArgs false
attribute [local go_sem] run_store_flt run_store_cpx

/-- where a row of floating numbers lies -/
def Fls (fk : FloatKind) (w : World) (u : Option Addr) (p po : Nat) (L : List Nat) : Prop := L ≠ [] → u = some ⟨p, po, none⟩ ∧ p < w.heap.size ∧ FltsAt fk w p po L
theorem Fls.bel {fk : FloatKind} {w w' : World} {u : Option Addr} {p po : Nat} {L : List Nat} (h : Fls fk w u p po L) (hb : Below w.heap.size w w') : Fls fk w' u p po L :=
  fun h0 => ⟨(h h0).1, Nat.lt_of_lt_of_le (h h0).2.1 hb.size, (h h0).2.2.below hb (h h0).2.1⟩
theorem Fls.at {fk : FloatKind} {w : World} {u : Option Addr} {p po : Nat} {L : List Nat} (h : Fls fk w u p po L) {i : Nat} {x : Nat} (hx : L[i]? = some x) : u = some ⟨p, po, none⟩ ∧ p < w.heap.size ∧ w.cell? ⟨p, po + i, none⟩ = some (.float fk x) := by
  obtain ⟨h1, h2, h3⟩ := h (by intro e; subst e; cases hx)
  exact ⟨h1, h2, h3 i x hx⟩
theorem Fls.but {fk : FloatKind} {w w' : World} {u : Option Addr} {g p po : Nat} {L : List Nat} (h : Fls fk w u p po L) (hb : But g w w') (hg : L ≠ [] → p ≠ g) : Fls fk w' u p po L :=
  fun h0 => ⟨(h h0).1, Nat.lt_of_lt_of_le (h h0).2.1 (Nat.le_of_eq hb.size), fun j x hj => cell_but hb (hg h0) ((h h0).2.2 j x hj)⟩
theorem fblk.fls {fk : FloatKind} {w : World} {g t : Nat} {L : List Nat} (h : fblk fk w g t L) : Fls fk w (some ⟨g, 0, none⟩) g 0 L := fun _ => ⟨rfl, h.lt, h.ints⟩
/-- the masses lie there, three numbers each -/
theorem Fls.mass {w : World} {u : Option Addr} {p po n i : Nat} {L : List Nat} (h : Fls .f64 w u p po L) (hl : L.length = n * 3) (hi : i < n) :
    ∃ x0 x1 x2, L[i * 3]? = some x0 ∧ L[i * 3 + 1]? = some x1 ∧ L[i * 3 + 2]? = some x2 ∧ u = some ⟨p, po, none⟩ ∧ p < w.heap.size ∧ w.cell? ⟨p, po + i * 3, none⟩ = some (.float .f64 x0) ∧ w.cell? ⟨p, po + i * 3 + 1, none⟩ = some (.float .f64 x1) ∧ w.cell? ⟨p, po + i * 3 + 2, none⟩ = some (.float .f64 x2) := by
  obtain ⟨x0, e0⟩ := fat_of (f := 0) hl hi (by omega)
  obtain ⟨x1, e1⟩ := fat_of (f := 1) hl hi (by omega)
  obtain ⟨x2, e2⟩ := fat_of (f := 2) hl hi (by omega)
  have h1 := h.at e0
  have h2 := h.at e1
  have h3 := h.at e2
  exact ⟨x0, x1, x2, e0, e1, e2, h1.1, h1.2.1, h1.2.2, by rw [Nat.add_assoc]; exact h2.2.2, by rw [Nat.add_assoc]; exact h3.2.2⟩

def smp (x : Nat) : Bool := fin .f64 (Fv .f64 x) (Fv .f64 13920209183539462144) (Fv .f64 4696837146684686336)
def pls (x : Nat) : Bool := fin .f64 (Fv .f64 x) (Fv .f64 0) (Fv .f64 4696837146684686336)
def mko (x : Nat) : Bool := fin .f64 (Fv .f64 x) (Fv .f64 4562254508917369340) (Fv .f64 4696837146684686336)
def ms3 (x0 x1 x2 : Nat) : Bool := mko x0 && pls x1 && mko x2
def msOk (L : List Nat) (i : Nat) : Bool := ms3 (L.getD (i * 3) 0) (L.getD (i * 3 + 1) 0) (L.getD (i * 3 + 2) 0)
theorem msOk_at {L : List Nat} {i x0 x1 x2 : Nat} (h0 : L[i * 3]? = some x0) (h1 : L[i * 3 + 1]? = some x1) (h2 : L[i * 3 + 2]? = some x2) : msOk L i = ms3 x0 x1 x2 := by
  unfold msOk
  simp only [List.getD_eq_getElem?_getD, h0, h1, h2, Option.getD_some]
theorem range_all (f : Nat → Bool) (i : Nat) : (List.range (i + 1)).all f = ((List.range i).all f && f i) := by rw [List.range_succ]; simp
theorem range_not (f : Nat → Bool) {i n : Nat} (hi : i < n) (h : f i = false) : (List.range n).all f = false := by
  cases hq : (List.range n).all f with
  | false => rfl
  | true =>
    have := List.all_eq_true.1 hq i (by simpa using hi)
    rw [h] at this
    cases this
theorem fall_take (p : Nat → Bool) {L : List Nat} {i : Nat} {x : Nat} (hx : L[i]? = some x) : (L.take (i + 1)).all p = ((L.take i).all p && p x) := by
  rw [List.take_add_one, hx]
  simp
theorem fall_not (p : Nat → Bool) {L : List Nat} {i : Nat} {x : Nat} (hx : L[i]? = some x) (h : p x = false) : L.all p = false := by
  cases hq : L.all p with
  | false => rfl
  | true =>
    have := List.all_eq_true.1 hq x (List.mem_of_getElem? hx)
    rw [h] at this
    cases this
theorem wrs_any (x : Nat) (w : World) : Calls Try.prog 57 #[.float .f64 x] w fun e w' => e = .returned (.bool (!smp x)) ∧ w' = w := by
  go_enter Try.func57, Try.ntmps57
  go_wp2_with fail
  refine (btw64 x _ _ _).mono ?_
  rintro e w' ⟨rfl, rfl⟩
  go_wp2_with fail
  go_ret
  exact ⟨rfl, rfl⟩
theorem wrp_any (x : Nat) (w : World) : Calls Try.prog 42 #[.float .f64 x] w fun e w' => e = .returned (.bool (!pls x)) ∧ w' = w := by
  go_enter Try.func42, Try.ntmps42
  go_wp2_with fail
  refine (btw64 x _ _ _).mono ?_
  rintro e w' ⟨rfl, rfl⟩
  go_wp2_with fail
  go_ret
  exact ⟨rfl, rfl⟩
theorem bti_any (x a b : Int) (w : World) : Calls Try.prog 39 #[.int .i64 x, .int .i64 a, .int .i64 b] w fun e w' => e = .returned (.bool (decide (a ≤ x) && decide (x ≤ b))) ∧ w' = w := by
  by_cases h1 : a ≤ x
  · have t1 := decide_eq_true h1
    by_cases h2 : x ≤ b
    · have t2 := decide_eq_true h2
      go_enter Try.func39, Try.ntmps39
      go_wp2_with fail
      go_ret
      exact ⟨by simp [h1, h2], rfl⟩
    · have t2 := decide_eq_false h2
      go_enter Try.func39, Try.ntmps39
      go_wp2_with fail
      go_ret
      exact ⟨by simp [h1, h2], rfl⟩
  · have t1 := decide_eq_false h1
    go_enter Try.func39, Try.ntmps39
    go_wp2_with fail
    go_ret
    exact ⟨by simp [h1], rfl⟩
set_option maxHeartbeats 1000000 in
theorem ixs_any (u : Option Addr) (p po n c : Nat) (L : List Nat) (w : World) (hl : L.length = n) (hn : n ≤ 9223372036854775807) (hu : Fls .f64 w u p po L) :
    Calls Try.prog 74 #[.slice u n c, .func (.func 57) #[] #[]] w fun e w' => (∃ r : Int, e = .returned (.int .i64 r) ∧ decide (0 ≤ r) = !L.all smp) ∧ w' = w := by
  have HU := hide hu
  have HL := hide hl
  have n0 : (0 : Int) ≤ (n : Int) := Int.natCast_nonneg _
  clear hu hl
  go_enter Try.func74, Try.ntmps74
  go_wp2_with fail
  go_loopw [8] (fun s W => ∃ i : Nat, s = .int .i64 (i : Int) ∧ i ≤ n ∧ (L.take i).all smp = true ∧ W = w) (fun s _ => n - (intOf s).toNat)
  case atStart => exact ⟨0, rfl, Nat.zero_le _, by simp, rfl⟩
  case round =>
    obtain ⟨i, rfl, hi, ha, rfl⟩ := hrel
    have HA := hide ha
    clear ha
    by_cases h : i < n
    · have i1 : (i : Int) < (n : Int) := by omega
      have i0 : (0 : Int) ≤ (i : Int) := Int.natCast_nonneg _
      have iz : decide ((i : Int) < (n : Int)) = true := decide_eq_true i1
      obtain ⟨x, hx⟩ := get_some (unhide HL) h
      obtain ⟨rfl, pw, k0⟩ := (unhide HU).at hx
      have HAX := hide (fall_take smp hx)
      have HX := hide hx
      clear pw hx
      go_wp2_with fail
      refine (wrs_any x _).mono ?_
      rintro e w' ⟨rfl, rfl⟩
      cases hto : smp x with
      | true =>
        go_wp2_with fail
        go_roundw
        case rel => exact ⟨i + 1, by simp, h, by rw [unhide HAX, unhide HA, hto]; rfl, by first | rfl | trivial⟩
        case measure => simp only [intOf]; omega
      | false =>
        go_wp2_with fail
        go_ret
        refine ⟨⟨_, rfl, ?_⟩, rfl⟩
        rw [fall_not _ (unhide HX) hto]
        simp
    · have iz : decide ((i : Int) < (n : Int)) = false := decide_eq_false (by omega)
      have HE : Hid (L.all smp = true) := hide (by have := unhide HA; rwa [List.take_of_length_le (by rw [unhide HL]; omega)] at this)
      go_wp2_with fail
      go_ret
      refine ⟨⟨_, rfl, ?_⟩, rfl⟩
      rw [unhide HE]
      rfl
theorem cns_any (u : Option Addr) (p po n c : Nat) (L : List Nat) (w : World) (hl : L.length = n) (hn : n ≤ 9223372036854775807) (hu : Fls .f64 w u p po L) :
    Calls Try.prog 56 #[.slice u n c, .func (.func 57) #[] #[]] w fun e w' => e = .returned (.bool (!L.all smp)) ∧ w' = w := by
  have H := hide (ixs_any u p po n c L w hl hn hu)
  clear hl hu
  go_enter Try.func56, Try.ntmps56
  go_wp2_with fail
  refine (unhide H).mono ?_
  rintro e w' ⟨⟨r, rfl, hr⟩, rfl⟩
  go_wp2_with fail
  go_ret
  exact ⟨by rw [← hr]; rfl, rfl⟩
theorem wrm_any (x0 x1 x2 : Nat) (w : World) : Calls Try.prog 41 #[.agg #[.float .f64 x0, .float .f64 x1, .float .f64 x2]] w fun e w' => e = .returned (.bool (!ms3 x0 x1 x2)) ∧ Below w.heap.size w w' := by
  unfold ms3 mko pls
  go_enter Try.func41, Try.ntmps41
  go_wp2_with fail
  refine (btw64 x0 _ _ _).mono ?_
  rintro e w' ⟨rfl, rfl⟩
  cases h0 : fin .f64 (Fv .f64 x0) (Fv .f64 4562254508917369340) (Fv .f64 4696837146684686336) with
  | false =>
    go_wp2_with fail
    go_ret
    exact ⟨by simp [h0], ba (Below.refl _ _) _⟩
  | true =>
    go_wp2_with fail
    refine (btw64 x1 _ _ _).mono ?_
    rintro e w' ⟨rfl, rfl⟩
    cases h1 : fin .f64 (Fv .f64 x1) (Fv .f64 0) (Fv .f64 4696837146684686336) with
    | false =>
      go_wp2_with fail
      go_ret
      exact ⟨by simp [h0, h1], ba (Below.refl _ _) _⟩
    | true =>
      go_wp2_with fail
      refine (btw64 x2 _ _ _).mono ?_
      rintro e w' ⟨rfl, rfl⟩
      go_wp2_with fail
      go_ret
      exact ⟨by simp [h0, h1], ba (Below.refl _ _) _⟩
set_option maxHeartbeats 1000000 in
theorem ixm_any (u : Option Addr) (p po n c : Nat) (L : List Nat) (w : World) (hl : L.length = n * 3) (hn : n ≤ 4096) (hu : Fls .f64 w u p po L) :
    Calls Try.prog 68 #[.slice u n c, .func (.func 41) #[] #[]] w fun e w' => (∃ r : Int, e = .returned (.int .i64 r) ∧ decide (0 ≤ r) = !(List.range n).all (msOk L)) ∧ Below w.heap.size w w' := by
  have HU := hide hu
  have HL := hide hl
  have n0 : (0 : Int) ≤ (n : Int) := Int.natCast_nonneg _
  clear hu hl
  go_enter Try.func68, Try.ntmps68
  go_wp2_with fail
  go_loopw [8] (fun s W => ∃ i : Nat, s = .int .i64 (i : Int) ∧ i ≤ n ∧ (List.range i).all (msOk L) = true ∧ Below w.heap.size w W) (fun s _ => n - (intOf s).toNat)
  case atStart => exact ⟨0, rfl, Nat.zero_le _, by simp, Below.refl _ _⟩
  case round =>
    obtain ⟨i, rfl, hi, ha, hw⟩ := hrel
    have HA := hide ha
    have HW := hide hw
    clear ha hw
    by_cases h : i < n
    · have i1 : (i : Int) < (n : Int) := by omega
      have i0 : (0 : Int) ≤ (i : Int) := Int.natCast_nonneg _
      have iz : decide ((i : Int) < (n : Int)) = true := decide_eq_true i1
      obtain ⟨x0, x1, x2, e0, e1, e2, rfl, pw, k0, k1, k2⟩ := ((unhide HU).bel (unhide HW)).mass (unhide HL) h
      have HM := hide (msOk_at e0 e1 e2)
      clear pw e0 e1 e2
      go_wp2_with fail
      refine (wrm_any x0 x1 x2 _).mono ?_
      rintro e w' ⟨rfl, hb⟩
      have HB := hide hb
      clear hb
      cases hto : ms3 x0 x1 x2 with
      | true =>
        go_wp2_with fail
        go_roundw
        case rel => exact ⟨i + 1, by simp, h, by rw [range_all, unhide HA, unhide HM, hto]; rfl, bc (unhide HW) (unhide HB)⟩
        case measure => simp only [intOf]; omega
      | false =>
        go_wp2_with fail
        go_ret
        refine ⟨⟨_, rfl, ?_⟩, bc (unhide HW) (unhide HB)⟩
        rw [range_not _ h (by rw [unhide HM, hto])]
        simp
    · have iz : decide ((i : Int) < (n : Int)) = false := decide_eq_false (by omega)
      have HE : Hid ((List.range n).all (msOk L) = true) := hide (by have := unhide HA; rwa [show i = n by omega] at this)
      go_wp2_with fail
      go_ret
      refine ⟨⟨_, rfl, ?_⟩, unhide HW⟩
      rw [unhide HE]
      rfl
theorem cnm_any (u : Option Addr) (p po n c : Nat) (L : List Nat) (w : World) (hl : L.length = n * 3) (hn : n ≤ 4096) (hu : Fls .f64 w u p po L) :
    Calls Try.prog 40 #[.slice u n c, .func (.func 41) #[] #[]] w fun e w' => e = .returned (.bool (!(List.range n).all (msOk L))) ∧ Below w.heap.size w w' := by
  have H := hide (ixm_any u p po n c L w hl hn hu)
  clear hl hu
  go_enter Try.func40, Try.ntmps40
  go_wp2_with fail
  refine (unhide H).mono ?_
  rintro e w' ⟨⟨r, rfl, hr⟩, hb⟩
  have HB := hide hb
  clear hb
  go_wp2_with fail
  go_ret
  exact ⟨by rw [← hr]; rfl, unhide HB⟩
end Go.Proofs.Ytgocgcnpgmamiaa
