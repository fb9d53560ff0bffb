/-
  The code of a strip's width and its plates, by the program.
-/
import Derived.Test.YtoidhlackoigkaaItRows
import Derived.Test.YtoidhlackoigkaaVb
import Derived.Laws.EntriesVeiled
import Derived.Lib.MinMax
namespace Go.Proofs.Ytoidhlackoigkaa
open Go.ChangeShapes Go.WideShapes Go.ChangeAt Go.RowKit
set_option linter.unusedVariables false
set_option linter.unusedSimpArgs false

/-- the number lies between the bounds -/
def inR (a b x : Int) : Bool := decide (a ≤ x) && decide (x ≤ b)
theorem inR_iff {a b x : Int} : inR a b x = true ↔ a ≤ x ∧ x ≤ b := by unfold inR; simp
theorem inR_f1 {a b x : Int} (h : x < a) : inR a b x = false := by unfold inR; rw [decide_eq_false (by omega)]; rfl
theorem inR_f2 {a b x : Int} (h : b < x) : inR a b x = false := by unfold inR; rw [decide_eq_false (p := x ≤ b) (by omega)]; simp
theorem all_take (p : Int → Bool) {L : List Int} {i : Nat} {x : Int} (hx : L[i]? = some x) : (L.take (i + 1)).all p = ((L.take i).all p && p x) := by
  rw [List.take_add_one, hx]
  simp
theorem all_not (p : Int → Bool) {L : List Int} {i : Nat} {x : Int} (hx : L[i]? = some x) (h : p x = false) : L.all p = false := by
  cases hq : L.all p with
  | false => rfl
  | true =>
    have := List.all_eq_true.1 hq x (List.mem_of_getElem? hx)
    rw [h] at this
    cases this
theorem bt_any (x a b : Int) (w : World) : Calls Try.prog 53 #[.int .i64 x, .int .i64 a, .int .i64 b] w fun e w' => e = .returned (.bool (inR a b x)) ∧ w' = w := by
  by_cases h1 : a ≤ x
  · by_cases h2 : x ≤ b
    · have t1 := decide_eq_true h1
      have t2 := decide_eq_true h2
      go_enter Try.func53, Try.ntmps53
      go_wp2_with fail
      go_ret
      exact ⟨by simp [inR, h1, h2], rfl⟩
    · have t1 := decide_eq_true h1
      have t2 := decide_eq_false h2
      go_enter Try.func53, Try.ntmps53
      go_wp2_with fail
      go_ret
      exact ⟨by simp [inR, h1, h2], rfl⟩
  · have t1 := decide_eq_false h1
    go_enter Try.func53, Try.ntmps53
    go_wp2_with fail
    go_ret
    exact ⟨by unfold inR; rw [t1]; rfl, rfl⟩
set_option maxHeartbeats 1000000 in
theorem wi_any (u : Option Addr) (p po n c : Nat) (L : List Int) (a b : Int) (w : World) (hl : L.length = n) (hn : n ≤ 9223372036854775807) (hu : Its w u p po L) :
    Calls Try.prog 35 #[.slice u n c, .int .i64 a, .int .i64 b] w fun e w' => e = .returned (.bool (L.all (inR a b))) ∧ w' = w := by
  have HU := hide hu
  have HL := hide hl
  have n0 : (0 : Int) ≤ (n : Int) := Int.natCast_nonneg _
  clear hu hl
  go_enter Try.func35, Try.ntmps35
  go_wp2_with fail
  go_loopw [7] (fun s W => ∃ i : Nat, s = .int .i64 (i : Int) ∧ i ≤ n ∧ (L.take i).all (inR a b) = true ∧ W = w) (fun s _ => n - (intOf s).toNat)
  case atStart => exact ⟨0, rfl, Nat.zero_le _, by simp, rfl⟩
  case round =>
    obtain ⟨i, rfl, hi, ha, rfl⟩ := hrel
    have HA := hide ha
    clear ha
    by_cases h : i < n
    · have i1 : (i : Int) < (n : Int) := by omega
      have i0 : (0 : Int) ≤ (i : Int) := Int.natCast_nonneg _
      have iz : decide ((i : Int) < (n : Int)) = true := decide_eq_true i1
      obtain ⟨x, hx⟩ := get_some (unhide HL) h
      obtain ⟨rfl, pw, k0⟩ := (unhide HU).at hx
      have HAX := hide (all_take (inR a b) hx)
      have HX := hide hx
      clear pw hx
      by_cases h1 : x < a
      · have t1 : decide (x < a) = true := decide_eq_true h1
        go_wp2_with fail
        go_ret
        exact ⟨by rw [all_not _ (unhide HX) (inR_f1 h1)]; rfl, rfl⟩
      have t1 : decide (x < a) = false := decide_eq_false h1
      by_cases h2 : b < x
      · have t2 : decide (b < x) = true := decide_eq_true h2
        go_wp2_with fail
        go_ret
        exact ⟨by rw [all_not _ (unhide HX) (inR_f2 h2)]; rfl, rfl⟩
      have t2 : decide (b < x) = false := decide_eq_false h2
      go_wp2_with fail
      go_roundw
      case rel => exact ⟨i + 1, by simp, h, by rw [unhide HAX, unhide HA, inR_iff.2 ⟨by omega, by omega⟩]; rfl, by first | rfl | trivial⟩
      case measure => simp only [intOf]; omega
    · have iz : decide ((i : Int) < (n : Int)) = false := decide_eq_false (by omega)
      have HE : Hid (L.all (inR a b) = true) := hide (by have := unhide HA; rwa [List.take_of_length_le (by rw [unhide HL]; omega)] at this)
      go_wp2_with fail
      go_ret
      exact ⟨by rw [unhide HE]; rfl, rfl⟩
theorem wsd_any (x : Int) (w : World) : Calls Try.prog 36 #[.int .i64 x] w fun e w' => e = .returned (.bool (!inR 1 1000 x)) ∧ w' = w := by
  go_enter Try.func36, Try.ntmps36
  go_wp2_with fail
  refine (bt_any x 1 1000 _).mono ?_
  rintro e w' ⟨rfl, rfl⟩
  go_wp2_with fail
  go_ret
  exact ⟨rfl, rfl⟩
/-- a plate -/
structure Pl where
  w : Int
  h : Int
def flatP (S : List Pl) : List Int := S.flatMap fun s => [s.w, s.h]
theorem flatP_len (S : List Pl) : (flatP S).length = S.length * 2 := by
  induction S with
  | nil => rfl
  | cons s S ih => simp only [flatP, List.flatMap_cons, List.length_append, List.length_cons] at ih ⊢; simp at ih ⊢; omega
theorem flatP_at {S : List Pl} {i : Nat} {s : Pl} (h : S[i]? = some s) : (flatP S)[i * 2]? = some s.w ∧ (flatP S)[i * 2 + 1]? = some s.h := by
  induction S generalizing i with
  | nil => cases h
  | cons s' S ih =>
    cases i with
    | zero => simp at h; subst h; simp [flatP]
    | succ i =>
      have := ih (i := i) (by simpa using h)
      have e0 : (i + 1) * 2 = i * 2 + 2 := by omega
      rw [e0]
      refine ⟨?_, ?_⟩
      · rw [← this.1]; simp only [flatP, List.flatMap_cons]; rw [List.getElem?_append_right (by simp)]; simp
      · rw [← this.2]; simp only [flatP, List.flatMap_cons]; rw [List.getElem?_append_right (by simp)]; simp
theorem flatP_of (n : Nat) (L : List Int) (h : L.length = n * 2) : ∃ S : List Pl, S.length = n ∧ flatP S = L := by
  induction n generalizing L with
  | zero => exact ⟨[], rfl, by simp at h; rw [h]; rfl⟩
  | succ n ih =>
    rcases L with _ | ⟨a, _ | ⟨b, L⟩⟩ <;> simp at h <;> try omega
    obtain ⟨S, h1, h2⟩ := ih L (by omega)
    exact ⟨⟨a, b⟩ :: S, by simp [h1], by simp only [flatP, List.flatMap_cons] at h2 ⊢; rw [h2]; rfl⟩
/-- where plates lie -/
def Pls (w : World) (u : Option Addr) (p po : Nat) (S : List Pl) : Prop := S ≠ [] → u = some ⟨p, po, none⟩ ∧ p < w.heap.size ∧ IntsAt w p po (flatP S)
theorem Pls.bel {w w' : World} {u : Option Addr} {p po : Nat} {S : List Pl} (h : Pls w u p po S) (hb : Below w.heap.size w w') : Pls w' u p po S :=
  fun h0 => ⟨(h h0).1, Nat.lt_of_lt_of_le (h h0).2.1 hb.size, (h h0).2.2.below hb (h h0).2.1⟩
theorem Pls.at {w : World} {u : Option Addr} {p po : Nat} {S : List Pl} (h : Pls w u p po S) {i : Nat} {s : Pl} (hx : S[i]? = some s) :
    u = some ⟨p, po, none⟩ ∧ p < w.heap.size ∧ w.cell? ⟨p, po + i * 2, none⟩ = some (.int .i64 s.w) ∧ w.cell? ⟨p, po + i * 2 + 1, none⟩ = some (.int .i64 s.h) := by
  obtain ⟨h1, h2, h3⟩ := h (by intro e; subst e; cases hx)
  obtain ⟨f0, f1⟩ := flatP_at hx
  exact ⟨h1, h2, h3.at0 f0, h3.at f1⟩
def plOk (p : Pl) : Bool := inR 1 1000 p.w && inR 1 1000 p.h
def plNo (p : Pl) : Bool := !plOk p
/-- too wide both ways -/
def plBig (W : Int) (p : Pl) : Bool := decide (W < p.w) && decide (W < p.h)
/-- the code of a strip's width and plates -/
def nsCode (W : Int) (P : List Pl) : Int := if 4096 < P.length then 2 else if (inR 1 1000 W && (decide (P.length ≤ 100) && P.all plOk)) = true then (if P.any (plBig W) = true then 5 else 0) else 1
theorem plw_any (a b : Int) (w : World) : Calls Try.prog 38 #[.agg #[.int .i64 a, .int .i64 b]] w fun e w' => e = .returned (.bool (!plOk ⟨a, b⟩)) ∧ Below w.heap.size w w' := by
  have HQ : Hid (plOk ⟨a, b⟩ = (inR 1 1000 a && inR 1 1000 b)) := hide rfl
  go_enter Try.func38, Try.ntmps38
  go_wp2_with fail
  refine (wsd_any a _).mono ?_
  rintro e w' ⟨rfl, rfl⟩
  cases t1 : inR 1 1000 a with
  | false =>
    go_wp2_with fail
    go_ret
    exact ⟨by rw [unhide HQ, t1]; rfl, ba (Below.refl _ _) _⟩
  | true =>
    go_wp2_with fail
    refine (wsd_any b _).mono ?_
    rintro e w' ⟨rfl, rfl⟩
    go_wp2_with fail
    go_ret
    exact ⟨by rw [unhide HQ, t1]; simp, ba (Below.refl _ _) _⟩
theorem big_min (W a b : Int) : decide (W < min a b) = plBig W ⟨a, b⟩ := by
  unfold plBig
  by_cases h1 : W < a <;> by_cases h2 : W < b <;> simp [h1, h2] <;> omega
theorem plb_any (W a b : Int) (g : Nat) (w : World) (hg : w.cell? ⟨g, 0, none⟩ = some (.int .i64 W)) : Calls Try.prog 39 #[.agg #[.int .i64 a, .int .i64 b], .pointer (some ⟨g, 0, none⟩)] w fun e w' => e = .returned (.bool (plBig W ⟨a, b⟩)) ∧ Below w.heap.size w w' := by
  have lt := cell_lt hg
  have HM := hide (big_min W a b)
  go_enter Try.func39, Try.ntmps39
  go_wp2_with fail
  go_ret
  exact ⟨by rw [← unhide HM]; rfl, ba (Below.refl _ _) _⟩
theorem allp_take (p : Pl → Bool) {L : List Pl} {i : Nat} {x : Pl} (hx : L[i]? = some x) : (L.take (i + 1)).any p = ((L.take i).any p || p x) := by
  rw [List.take_add_one, hx]
  simp
theorem any_yes (p : Pl → Bool) {L : List Pl} {i : Nat} {x : Pl} (hx : L[i]? = some x) (h : p x = true) : L.any p = true := List.any_eq_true.2 ⟨x, List.mem_of_getElem? hx, h⟩
theorem not_all (P : List Pl) : P.any plNo = !P.all plOk := by
  induction P with
  | nil => rfl
  | cons a P ih => simp only [List.any_cons, List.all_cons, ih, Bool.not_and, plNo]
set_option maxHeartbeats 1000000 in
theorem ix38_any (u : Option Addr) (p po n c : Nat) (L : List Pl) (w : World) (hl : L.length = n) (hn : n ≤ 9223372036854775807) (hu : Pls w u p po L) :
    Calls Try.prog 54 #[.slice u n c, .func (.func 38) #[] #[]] w fun e w' => (∃ r : Int, e = .returned (.int .i64 r) ∧ decide (0 ≤ r) = L.any plNo) ∧ Below w.heap.size w w' := by
  have HU := hide (fun W (hW : Below w.heap.size w W) => hu.bel hW)
  have HL := hide hl
  have HC : Hid (∀ s ∈ L, ∀ W, Below w.heap.size w W → Calls Try.prog 38 #[.agg #[.int .i64 s.w, .int .i64 s.h]] W fun e w' => e = .returned (.bool (plNo s)) ∧ Below W.heap.size W w') := hide (fun s _ W hW => plw_any s.w s.h W)
  have n0 : (0 : Int) ≤ (n : Int) := Int.natCast_nonneg _
  clear hu hl
  go_enter Try.func54, Try.ntmps54
  go_wp2_with fail
  go_loopw [5, 8] (fun _ s W => ∃ i : Nat, s = .int .i64 (i : Int) ∧ i ≤ n ∧ (L.take i).any plNo = false ∧ Below w.heap.size w W) (fun _ s _ => n - (intOf s).toNat)
  case atStart => exact ⟨0, rfl, Nat.zero_le _, by simp, Below.refl _ _⟩
  case round =>
    obtain ⟨i, rfl, hi, ha, hb⟩ := hrel
    have HA := hide ha
    have HB := hide hb
    clear ha
    by_cases h : i < n
    · have i1 : (i : Int) < (n : Int) := by omega
      have i0 : (0 : Int) ≤ (i : Int) := Int.natCast_nonneg _
      have iz : decide ((i : Int) < (n : Int)) = true := decide_eq_true i1
      obtain ⟨s, hx⟩ := get_some (unhide HL) h
      obtain ⟨rfl, pw, k0, k1⟩ := (unhide HU _ hb).at hx
      have HAX := hide (allp_take plNo hx)
      have HX := hide hx
      have HCs := hide (unhide HC s (List.mem_of_getElem? hx))
      clear pw hx hb
      generalize hto : plNo s = tq at *
      have HTO := hide hto
      clear hto
      go_wp2_with fail
      refine (unhide HCs _ (unhide HB)).mono ?_
      rintro e W2 ⟨rfl, hb2⟩
      have HB2 := hide (bc (unhide HB) hb2)
      clear hb2
      cases tq with
      | false =>
        go_wp2_with fail
        go_roundw
        case rel => first | exact ⟨i + 1, by simp, h, by rw [unhide HAX, unhide HA]; rfl, unhide HB2⟩ | ((repeat apply Exists.intro); refine ⟨?_, rfl⟩; exact ⟨i + 1, by simp, h, by rw [unhide HAX, unhide HA]; rfl, unhide HB2⟩)
        case measure => first | (simp only [intOf]; omega) | (simp [intOf]; omega)
      | true =>
        have HY := hide (any_yes plNo (unhide HX) (unhide HTO))
        go_wp2_with fail
        go_ret
        refine ⟨⟨_, rfl, ?_⟩, unhide HB2⟩
        rw [unhide HY]
        simp
    · have iz : decide ((i : Int) < (n : Int)) = false := decide_eq_false (by omega)
      have HE : Hid (L.any plNo = false) := hide (by have := unhide HA; rwa [List.take_of_length_le (by rw [unhide HL]; omega)] at this)
      clear hb
      go_wp2_with fail
      go_ret
      refine ⟨⟨_, rfl, ?_⟩, unhide HB⟩
      rw [unhide HE]
      rfl
theorem cn38_any (u : Option Addr) (p po n c : Nat) (L : List Pl) (w : World) (hl : L.length = n) (hn : n ≤ 9223372036854775807) (hu : Pls w u p po L) :
    Calls Try.prog 37 #[.slice u n c, .func (.func 38) #[] #[]] w fun e w' => e = .returned (.bool (L.any plNo)) ∧ Below w.heap.size w w' := by
  have H := hide (ix38_any u p po n c L w hl hn hu)
  clear hl hu
  go_enter Try.func37, Try.ntmps37
  go_wp2_with fail
  refine (unhide H).mono ?_
  rintro e w' ⟨⟨r, rfl, hr⟩, hb⟩
  have HB := hide hb
  clear hb
  go_wp2_with fail
  go_ret
  exact ⟨by rw [← hr]; rfl, unhide HB⟩
set_option maxHeartbeats 1000000 in
theorem ix39_any (Wd : Int) (g : Nat) (u : Option Addr) (p po n c : Nat) (L : List Pl) (w : World) (hl : L.length = n) (hn : n ≤ 9223372036854775807) (hu : Pls w u p po L) (hg : w.cell? ⟨g, 0, none⟩ = some (.int .i64 Wd)) :
    Calls Try.prog 54 #[.slice u n c, .func (.func 39) #[] #[.pointer (some ⟨g, 0, none⟩)]] w fun e w' => (∃ r : Int, e = .returned (.int .i64 r) ∧ decide (0 ≤ r) = L.any (plBig Wd)) ∧ Below w.heap.size w w' := by
  have HU := hide (fun W (hW : Below w.heap.size w W) => hu.bel hW)
  have HL := hide hl
  have HC : Hid (∀ s ∈ L, ∀ W, Below w.heap.size w W → Calls Try.prog 39 #[.agg #[.int .i64 s.w, .int .i64 s.h], .pointer (some ⟨g, 0, none⟩)] W fun e w' => e = .returned (.bool ((plBig Wd) s)) ∧ Below W.heap.size W w') := hide (fun s _ W hW => plb_any Wd s.w s.h g W (keep1 hW hg))
  have n0 : (0 : Int) ≤ (n : Int) := Int.natCast_nonneg _
  clear hu hl hg
  go_enter Try.func54, Try.ntmps54
  go_wp2_with fail
  go_loopw [5, 8] (fun _ s W => ∃ i : Nat, s = .int .i64 (i : Int) ∧ i ≤ n ∧ (L.take i).any (plBig Wd) = false ∧ Below w.heap.size w W) (fun _ s _ => n - (intOf s).toNat)
  case atStart => exact ⟨0, rfl, Nat.zero_le _, by simp, Below.refl _ _⟩
  case round =>
    obtain ⟨i, rfl, hi, ha, hb⟩ := hrel
    have HA := hide ha
    have HB := hide hb
    clear ha
    by_cases h : i < n
    · have i1 : (i : Int) < (n : Int) := by omega
      have i0 : (0 : Int) ≤ (i : Int) := Int.natCast_nonneg _
      have iz : decide ((i : Int) < (n : Int)) = true := decide_eq_true i1
      obtain ⟨s, hx⟩ := get_some (unhide HL) h
      obtain ⟨rfl, pw, k0, k1⟩ := (unhide HU _ hb).at hx
      have HAX := hide (allp_take (plBig Wd) hx)
      have HX := hide hx
      have HCs := hide (unhide HC s (List.mem_of_getElem? hx))
      clear pw hx hb
      generalize hto : (plBig Wd) s = tq at *
      have HTO := hide hto
      clear hto
      go_wp2_with fail
      refine (unhide HCs _ (unhide HB)).mono ?_
      rintro e W2 ⟨rfl, hb2⟩
      have HB2 := hide (bc (unhide HB) hb2)
      clear hb2
      cases tq with
      | false =>
        go_wp2_with fail
        go_roundw
        case rel => first | exact ⟨i + 1, by simp, h, by rw [unhide HAX, unhide HA]; rfl, unhide HB2⟩ | ((repeat apply Exists.intro); refine ⟨?_, rfl⟩; exact ⟨i + 1, by simp, h, by rw [unhide HAX, unhide HA]; rfl, unhide HB2⟩)
        case measure => first | (simp only [intOf]; omega) | (simp [intOf]; omega)
      | true =>
        have HY := hide (any_yes (plBig Wd) (unhide HX) (unhide HTO))
        go_wp2_with fail
        go_ret
        refine ⟨⟨_, rfl, ?_⟩, unhide HB2⟩
        rw [unhide HY]
        simp
    · have iz : decide ((i : Int) < (n : Int)) = false := decide_eq_false (by omega)
      have HE : Hid (L.any (plBig Wd) = false) := hide (by have := unhide HA; rwa [List.take_of_length_le (by rw [unhide HL]; omega)] at this)
      clear hb
      go_wp2_with fail
      go_ret
      refine ⟨⟨_, rfl, ?_⟩, unhide HB⟩
      rw [unhide HE]
      rfl
theorem cn39_any (Wd : Int) (g : Nat) (u : Option Addr) (p po n c : Nat) (L : List Pl) (w : World) (hl : L.length = n) (hn : n ≤ 9223372036854775807) (hu : Pls w u p po L) (hg : w.cell? ⟨g, 0, none⟩ = some (.int .i64 Wd)) :
    Calls Try.prog 37 #[.slice u n c, .func (.func 39) #[] #[.pointer (some ⟨g, 0, none⟩)]] w fun e w' => e = .returned (.bool (L.any (plBig Wd))) ∧ Below w.heap.size w w' := by
  have H := hide (ix39_any Wd g u p po n c L w hl hn hu hg)
  clear hl hu hg
  go_enter Try.func37, Try.ntmps37
  go_wp2_with fail
  refine (unhide H).mono ?_
  rintro e w' ⟨⟨r, rfl, hr⟩, hb⟩
  have HB := hide hb
  clear hb
  go_wp2_with fail
  go_ret
  exact ⟨by rw [← hr]; rfl, unhide HB⟩
set_option maxHeartbeats 1000000 in
theorem ncP_any (Wd : Int) (u : Option Addr) (p po n c : Nat) (L : List Pl) (w : World) (hl : L.length = n) (hn : n ≤ 9223372036854775807) (hu : Pls w u p po L) :
    Calls Try.prog 22 #[.int .i64 Wd, .slice u n c] w fun e w' => e = .returned (.int .i64 (nsCode Wd L)) ∧ Below w.heap.size w w' := by
  have HQ : Hid (nsCode Wd L = if 4096 < n then 2 else if (inR 1 1000 Wd && (decide (n ≤ 100) && L.all plOk)) = true then (if L.any (plBig Wd) = true then 5 else 0) else 1) := hide (by unfold nsCode; rw [hl])
  have HB := hide (ba (Below.refl w.heap.size w) (.cells #[.int .i64 Wd] 3))
  have HV := hide (vb_new w 3 [.int .i64 Wd] w.heap.size rfl)
  have HC := hide (fun X (hX : Below w.heap.size w X) => cn38_any u p po n c L X hl hn (hu.bel hX))
  have HD := hide (fun g X (hX : Below w.heap.size w X) (hg : X.cell? ⟨g, 0, none⟩ = some (.int .i64 Wd)) => cn39_any Wd g u p po n c L X hl hn (hu.bel hX) hg)
  rw [not_all] at HC
  clear hl hu
  by_cases h0 : 4096 < n
  · have t0 : decide ((4096 : Int) < (n : Int)) = true := decide_eq_true (by omega)
    go_enter Try.func22, Try.ntmps22
    go_wp2_with fail
    go_ret
    exact ⟨by rw [unhide HQ, if_pos h0]; rfl, unhide HB⟩
  have t0 : decide ((4096 : Int) < (n : Int)) = false := decide_eq_false (by omega)
  go_enter Try.func22, Try.ntmps22
  go_wp2_with fail
  refine (wsd_any Wd _).mono ?_
  rintro e w' ⟨rfl, rfl⟩
  cases t1 : inR 1 1000 Wd with
  | false =>
    go_wp2_with fail
    go_ret
    exact ⟨by rw [unhide HQ, if_neg h0, t1]; rfl, unhide HB⟩
  | true =>
    by_cases h1 : 100 < n
    · have t2 : decide ((100 : Int) < (n : Int)) = true := decide_eq_true (by omega)
      go_wp2_with fail
      go_ret
      exact ⟨by rw [unhide HQ, if_neg h0, decide_eq_false (by omega : ¬ n ≤ 100)]; simp, unhide HB⟩
    have t2 : decide ((100 : Int) < (n : Int)) = false := decide_eq_false (by omega)
    go_wp2_with fail
    refine (unhide HC _ (unhide HB)).mono ?_
    rintro e w1 ⟨rfl, hb⟩
    have HB1 := hide (bc (unhide HB) hb)
    have k0 := ((unhide HV).bel hb).cell (m := 0) rfl
    clear hb
    cases t3 : L.all plOk with
    | false =>
      go_wp2_with fail
      go_ret
      exact ⟨by rw [unhide HQ, if_neg h0, t3]; simp, unhide HB1⟩
    | true =>
      go_wp2_with fail
      refine (unhide HD _ _ (unhide HB1) k0).mono ?_
      rintro e w2 ⟨rfl, hb⟩
      have HB2 := hide (bc (unhide HB1) hb)
      clear hb
      cases t4 : L.any (plBig Wd) with
      | false =>
        go_wp2_with fail
        go_ret
        exact ⟨by rw [unhide HQ, if_neg h0, t1, t3, t4]; simp [(by omega : n ≤ 100)], unhide HB2⟩
      | true =>
        go_wp2_with fail
        go_ret
        exact ⟨by rw [unhide HQ, if_neg h0, t1, t3, t4]; simp [(by omega : n ≤ 100)], unhide HB2⟩
end Go.Proofs.Ytoidhlackoigkaa
