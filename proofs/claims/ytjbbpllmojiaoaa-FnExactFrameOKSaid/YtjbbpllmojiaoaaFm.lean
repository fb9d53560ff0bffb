/-
  Springs in memory, and what makes a frame right: both sides.
-/
import Derived.Test.YtjbbpllmojiaoaaWi
namespace Go.Proofs.Ytjbbpllmojiaoaa
open Go.ChangeShapes Go.WideShapes Go.ChangeAt Go.RowKit
set_option linter.unusedVariables false
set_option linter.unusedSimpArgs false

/-- a spring: its ends and how stiff it is -/
structure Spg where
  a : Int
  b : Int
  k : Int
def flat3 (S : List Spg) : List Int := S.flatMap fun s => [s.a, s.b, s.k]
theorem flat3_len (S : List Spg) : (flat3 S).length = S.length * 3 := by
  induction S with
  | nil => rfl
  | cons s S ih => simp only [flat3, List.flatMap_cons, List.length_append, List.length_cons] at ih ⊢; simp at ih ⊢; omega
theorem flat3_at {S : List Spg} {i : Nat} {s : Spg} (h : S[i]? = some s) : (flat3 S)[i * 3]? = some s.a ∧ (flat3 S)[i * 3 + 1]? = some s.b ∧ (flat3 S)[i * 3 + 2]? = some s.k := by
  induction S generalizing i with
  | nil => cases h
  | cons s' S ih =>
    cases i with
    | zero => simp at h; subst h; simp [flat3]
    | succ i =>
      have := ih (i := i) (by simpa using h)
      have e0 : (i + 1) * 3 = i * 3 + 3 := by omega
      rw [e0]
      refine ⟨?_, ?_, ?_⟩
      · rw [← this.1]; simp only [flat3, List.flatMap_cons]; rw [List.getElem?_append_right (by simp)]; simp
      · rw [← this.2.1]; simp only [flat3, List.flatMap_cons]; rw [List.getElem?_append_right (by simp)]; simp
      · rw [← this.2.2]; simp only [flat3, List.flatMap_cons]; rw [List.getElem?_append_right (by simp)]; simp
theorem flat3_of (n : Nat) (L : List Int) (h : L.length = n * 3) : ∃ S : List Spg, S.length = n ∧ flat3 S = L := by
  induction n generalizing L with
  | zero => exact ⟨[], rfl, by simp at h; rw [h]; rfl⟩
  | succ n ih =>
    rcases L with _ | ⟨a, _ | ⟨b, _ | ⟨c, L⟩⟩⟩ <;> simp at h <;> try omega
    obtain ⟨S, h1, h2⟩ := ih L (by omega)
    exact ⟨⟨a, b, c⟩ :: S, by simp [h1], by simp only [flat3, List.flatMap_cons] at h2 ⊢; rw [h2]; rfl⟩
/-- where springs lie -/
def Sps (w : World) (u : Option Addr) (p po : Nat) (S : List Spg) : Prop := S ≠ [] → u = some ⟨p, po, none⟩ ∧ p < w.heap.size ∧ IntsAt w p po (flat3 S)
theorem Sps.bel {w w' : World} {u : Option Addr} {p po : Nat} {S : List Spg} (h : Sps w u p po S) (hb : Below w.heap.size w w') : Sps w' u p po S :=
  fun h0 => ⟨(h h0).1, Nat.lt_of_lt_of_le (h h0).2.1 hb.size, (h h0).2.2.below hb (h h0).2.1⟩
theorem Sps.at {w : World} {u : Option Addr} {p po : Nat} {S : List Spg} (h : Sps w u p po S) {i : Nat} {s : Spg} (hx : S[i]? = some s) :
    u = some ⟨p, po, none⟩ ∧ p < w.heap.size ∧ w.cell? ⟨p, po + i * 3, none⟩ = some (.int .i64 s.a) ∧ w.cell? ⟨p, po + i * 3 + 1, none⟩ = some (.int .i64 s.b) ∧ w.cell? ⟨p, po + i * 3 + 2, none⟩ = some (.int .i64 s.k) := by
  obtain ⟨h1, h2, h3⟩ := h (by intro e; subst e; cases hx)
  obtain ⟨f0, f1, f2⟩ := flat3_at hx
  exact ⟨h1, h2, h3.at0 f0, h3.at f1, h3.at f2⟩
/-- the spring is one of a frame of n nodes -/
def spOk (n : Int) (s : Spg) : Bool := inR 0 (n - 1) s.a && (inR (-1) (n - 1) s.b && (!(s.a == s.b) && inR 1 1000 s.k))
def frOk (n : Int) (S : List Spg) (L : List Int) : Bool := inR 1 6 n && (decide (S.length ≤ 20) && (decide ((L.length : Int) = n) && (S.all (spOk n) && L.all (inR (-1000) 1000))))
def sv (s : Spg) : Value := .agg #[.int .i64 s.a, .int .i64 s.b, .int .i64 s.k]
def fv (n : Int) (us : Option Addr) (ns cs : Nat) (ul : Option Addr) (nl cl : Nat) : Value := .agg #[.int .i64 n, .slice us ns cs, .slice ul nl cl]

set_option maxHeartbeats 1000000 in
theorem wsp_any (n : Int) (us ul : Option Addr) (ns cs nl cl : Nat) (a b k : Int) (w : World) (h1 : 1 ≤ n) (h2 : n ≤ 6) :
    Calls Try.prog 52 #[.agg #[.int .i64 n, .slice us ns cs, .slice ul nl cl], .agg #[.int .i64 a, .int .i64 b, .int .i64 k]] w fun e w' => e = .returned (.bool (!spOk n ⟨a, b, k⟩)) ∧ Below w.heap.size w w' := by
  have HQ : Hid (spOk n ⟨a, b, k⟩ = (inR 0 (n - 1) a && (inR (-1) (n - 1) b && (!(a == b) && inR 1 1000 k)))) := hide rfl
  have ew : IntKind.i64.wrap (n - 1) = n - 1 := wrap_i (by omega) (by omega)
  go_enter Try.func52, Try.ntmps52
  go_wp2_with fail
  refine (bt_any a 0 (n - 1) _).mono ?_
  rintro e w' ⟨rfl, rfl⟩
  cases t1 : inR 0 (n - 1) a with
  | false =>
    go_wp2_with fail
    go_ret
    exact ⟨by rw [unhide HQ, t1]; rfl, ba (ba (Below.refl _ _) _) _⟩
  | true =>
    go_wp2_with fail
    refine (bt_any b (-1) (n - 1) _).mono ?_
    rintro e w' ⟨rfl, rfl⟩
    cases t2 : inR (-1) (n - 1) b with
    | false =>
      go_wp2_with fail
      go_ret
      exact ⟨by rw [unhide HQ, t1, t2]; rfl, ba (ba (Below.refl _ _) _) _⟩
    | true =>
      cases t3 : (a == b) with
      | true =>
        go_wp2_with fail
        go_ret
        exact ⟨by rw [unhide HQ, t1, t2, t3]; rfl, ba (ba (Below.refl _ _) _) _⟩
      | false =>
        go_wp2_with fail
        refine (bt_any k 1 1000 _).mono ?_
        rintro e w' ⟨rfl, rfl⟩
        go_wp2_with fail
        go_ret
        exact ⟨by rw [unhide HQ, t1, t2, t3]; simp, ba (ba (Below.refl _ _) _) _⟩
theorem alls_take (p : Spg → Bool) {L : List Spg} {i : Nat} {x : Spg} (hx : L[i]? = some x) : (L.take (i + 1)).all p = ((L.take i).all p && p x) := by
  rw [List.take_add_one, hx]
  simp
theorem alls_not (p : Spg → Bool) {L : List Spg} {i : Nat} {x : Spg} (hx : L[i]? = some x) (h : p x = false) : L.all p = false := by
  cases hq : L.all p with
  | false => rfl
  | true =>
    have := List.all_eq_true.1 hq x (List.mem_of_getElem? hx)
    rw [h] at this
    cases this
set_option maxHeartbeats 1000000 in
theorem ixs_any (N : Int) (ul : Option Addr) (nl cl : Nat) (u : Option Addr) (p po n c : Nat) (L : List Spg) (w : World) (h1 : 1 ≤ N) (h2 : N ≤ 6) (hl : L.length = n) (hn : n ≤ 9223372036854775807) (hu : Sps w u p po L) :
    Calls Try.prog 79 #[.slice u n c, .func (.func 52) #[.agg #[.int .i64 N, .slice u n c, .slice ul nl cl]] #[]] w fun e w' => (∃ r : Int, e = .returned (.int .i64 r) ∧ decide (0 ≤ r) = !L.all (spOk N)) ∧ Below w.heap.size w w' := by
  have HU := hide (fun W (hW : Below w.heap.size w W) => hu.bel hW)
  have HL := hide hl
  have HC : Hid (∀ s ∈ L, ∀ W, Calls Try.prog 52 #[.agg #[.int .i64 N, .slice u n c, .slice ul nl cl], .agg #[.int .i64 s.a, .int .i64 s.b, .int .i64 s.k]] W fun e w' => e = .returned (.bool (!spOk N s)) ∧ Below W.heap.size W w') := hide (fun s _ W => wsp_any N u ul n c nl cl s.a s.b s.k W h1 h2)
  have n0 : (0 : Int) ≤ (n : Int) := Int.natCast_nonneg _
  clear hu hl h1 h2
  generalize hqv : (.agg #[.int .i64 N, .slice u n c, .slice ul nl cl] : Value) = qv at HC ⊢
  clear hqv
  go_enter Try.func79, Try.ntmps79
  go_wp2_with fail
  go_loopw [5, 8] (fun _ s W => ∃ i : Nat, s = .int .i64 (i : Int) ∧ i ≤ n ∧ (L.take i).all (spOk N) = true ∧ Below w.heap.size w W) (fun _ s _ => n - (intOf s).toNat)
  case atStart => exact ⟨0, rfl, Nat.zero_le _, by simp, Below.refl _ _⟩
  case round =>
    obtain ⟨i, rfl, hi, ha, hb⟩ := hrel
    have HA := hide ha
    have HB := hide hb
    clear ha
    by_cases h : i < n
    · have i1 : (i : Int) < (n : Int) := by omega
      have i0 : (0 : Int) ≤ (i : Int) := Int.natCast_nonneg _
      have iz : decide ((i : Int) < (n : Int)) = true := decide_eq_true i1
      obtain ⟨s, hx⟩ := get_some (unhide HL) h
      obtain ⟨rfl, pw, k0, k1, k2⟩ := (unhide HU _ hb).at hx
      have HAX := hide (alls_take (spOk N) hx)
      have HX := hide hx
      have HCs := hide (unhide HC s (List.mem_of_getElem? hx))
      clear pw hx hb
      go_wp2_with fail
      refine (unhide HCs _).mono ?_
      rintro e W2 ⟨rfl, hb2⟩
      have HB2 := hide (bc (unhide HB) hb2)
      clear hb2
      cases hto : spOk N s with
      | true =>
        go_wp2_with fail
        go_roundw
        case rel => first | exact ⟨i + 1, by simp, h, by rw [unhide HAX, unhide HA, hto]; rfl, unhide HB2⟩ | ((repeat apply Exists.intro); refine ⟨?_, rfl⟩; exact ⟨i + 1, by simp, h, by rw [unhide HAX, unhide HA, hto]; rfl, unhide HB2⟩)
        case measure => first | (simp only [intOf]; omega) | (simp [intOf]; omega)
      | false =>
        go_wp2_with fail
        go_ret
        refine ⟨⟨_, rfl, ?_⟩, unhide HB2⟩
        rw [alls_not _ (unhide HX) hto]
        simp
    · have iz : decide ((i : Int) < (n : Int)) = false := decide_eq_false (by omega)
      have HE : Hid (L.all (spOk N) = true) := hide (by have := unhide HA; rwa [List.take_of_length_le (by rw [unhide HL]; omega)] at this)
      clear hb
      go_wp2_with fail
      go_ret
      refine ⟨⟨_, rfl, ?_⟩, unhide HB⟩
      rw [unhide HE]
      rfl
theorem cns_any (N : Int) (ul : Option Addr) (nl cl : Nat) (u : Option Addr) (p po n c : Nat) (L : List Spg) (w : World) (h1 : 1 ≤ N) (h2 : N ≤ 6) (hl : L.length = n) (hn : n ≤ 9223372036854775807) (hu : Sps w u p po L) :
    Calls Try.prog 51 #[.slice u n c, .func (.func 52) #[.agg #[.int .i64 N, .slice u n c, .slice ul nl cl]] #[]] w fun e w' => e = .returned (.bool (!L.all (spOk N))) ∧ Below w.heap.size w w' := by
  have H := hide (ixs_any N ul nl cl u p po n c L w h1 h2 hl hn hu)
  clear hl hu h1 h2
  go_enter Try.func51, Try.ntmps51
  go_wp2_with fail
  refine (unhide H).mono ?_
  rintro e w' ⟨⟨r, rfl, hr⟩, hb⟩
  have HB := hide hb
  clear hb
  go_wp2_with fail
  go_ret
  exact ⟨by rw [← hr]; rfl, unhide HB⟩
end Go.Proofs.Ytjbbpllmojiaoaa
