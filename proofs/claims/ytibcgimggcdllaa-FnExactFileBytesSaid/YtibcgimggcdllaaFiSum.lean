/-
  Bytes in memory, and their check sum by both sides.
-/
import Derived.Test.YtibcgimggcdllaaGen
import Derived.Test.YtibcgimggcdllaaProg
namespace Go.Proofs.Ytibcgimggcdllaa
open Go.ChangeShapes Go.WideShapes Go.ChangeAt Go.RowKit
set_option linter.unusedVariables false
set_option linter.unusedSimpArgs false

def byc (x : Int) : List Value := [.int .u8 x]
theorem byc_len (x : Int) : (byc x).length = 1 := rfl
def Byt (L : List Int) : Prop := ∀ x ∈ L, 0 ≤ x ∧ x < 256
theorem SlG.byte {w : World} {u : Option Addr} {p po : Nat} {L : List Int} (h : SlG byc 1 w u p po L) {i : Nat} {x : Int} (hi : L[i]? = some x) : u = some ⟨p, po, none⟩ ∧ p < w.heap.size ∧ w.cell? ⟨p, po + i, none⟩ = some (.int .u8 x) := by
  obtain ⟨h1, h2, h3⟩ := h.at hi
  refine ⟨h1, h2, ?_⟩
  have := h3 0 (.int .u8 x) rfl
  simpa using this

def stepS (s : Int × Int) (x : Int) : Int × Int := ((s.1 + x) % 251, (s.2 + (s.1 + x) % 251) % 251)
def sumS (L : List Int) : Int × Int := L.foldl stepS (1, 0)
theorem sumS_take {L : List Int} {i : Nat} {x : Int} (h : L[i]? = some x) : sumS (L.take (i + 1)) = stepS (sumS (L.take i)) x := by
  unfold sumS
  rw [List.take_add_one, h]
  simp
theorem foldS_ok (L : List Int) (s : Int × Int) (h : (0 ≤ s.1 ∧ s.1 < 251) ∧ 0 ≤ s.2 ∧ s.2 < 251) : (0 ≤ (L.foldl stepS s).1 ∧ (L.foldl stepS s).1 < 251) ∧ 0 ≤ (L.foldl stepS s).2 ∧ (L.foldl stepS s).2 < 251 := by
  induction L generalizing s with
  | nil => exact h
  | cons x L ih =>
    rw [List.foldl_cons]
    apply ih
    unfold stepS
    simp only
    omega
theorem sumS_ok (L : List Int) : (0 ≤ (sumS L).1 ∧ (sumS L).1 < 251) ∧ 0 ≤ (sumS L).2 ∧ (sumS L).2 < 251 := foldS_ok L _ (by simp)
def sumN (L : List Int) : Int := 256 * (sumS L).2 + (sumS L).1

theorem or_nat (a b : Nat) (hb : b < 256) : a * 256 ||| b = a * 256 + b := by
  have : a * 256 = a <<< 8 := by rw [Nat.shiftLeft_eq]
  rw [this, Nat.shiftLeft_add_eq_or_of_lt (by simpa using hb)]
theorem or_two (h l : Int) (h0 : 0 ≤ h) (h1 : h < 256) (l0 : 0 ≤ l) (l1 : l < 256) : bits BinOp.or IntKind.i64 (h * 256) l = 256 * h + l := by
  obtain ⟨a, rfl⟩ := Int.eq_ofNat_of_zero_le h0
  obtain ⟨b, rfl⟩ := Int.eq_ofNat_of_zero_le l0
  have e : ((a : Int) * 256) = ((a * 256 : Nat) : Int) := by omega
  rw [e]
  unfold bits
  simp only [BitVec.ofInt_natCast, BitVec.toNat_or, BitVec.toNat_ofNat]
  rw [show (IntKind.i64).bits = 64 from rfl, Nat.mod_eq_of_lt (by omega), Nat.mod_eq_of_lt (by omega), or_nat a b (by omega), wrap_i (by omega) (by omega)]
  omega
theorem num_any (h l : Int) (w : World) (h0 : 0 ≤ h) (h1 : h < 256) (l0 : 0 ≤ l) (l1 : l < 256) :
    Calls Try.prog 19 #[.agg #[.int .u8 h, .int .u8 l]] w fun e w' => e = .returned (.int .i64 (256 * h + l)) ∧ Below w.heap.size w w' := by
  have eo := or_two h l h0 h1 l0 l1
  go_enter Try.func19, Try.ntmps19
  go_wp2_with fail
  go_ret
  exact ⟨rfl, ba (Below.refl _ _) _⟩

set_option maxHeartbeats 1000000 in
theorem sumM_any (u : Option Addr) (p po n c : Nat) (L : List Int) (w : World) (hl : L.length = n) (hn : n ≤ 9223372036854775807) (hu : SlG byc 1 w u p po L) (hL : Byt L) :
    Calls Try.prog 17 #[.slice u n c] w fun e w' => e = .returned (.int .i64 (sumN L)) ∧ Below w.heap.size w w' := by
  have HU := hide (fun W (hW : Below w.heap.size w W) => hu.bel hW)
  have HL := hide hl
  have HBy := hide hL
  clear hu hl hL
  go_enter Try.func17, Try.ntmps17
  go_wp2
  go_loopw [3, 4, 5] (fun a b s W => ∃ i : Nat, a = .int .i64 (sumS (L.take i)).1 ∧ b = .int .i64 (sumS (L.take i)).2 ∧ s = .int .i64 (i : Int) ∧ i ≤ n ∧ Below w.heap.size w W) (fun _ _ s _ => n - (intOf s).toNat)
  case atStart => exact ⟨0, by simp [sumS], by simp [sumS], rfl, Nat.zero_le _, Below.refl _ _⟩
  case round =>
    obtain ⟨i, rfl, rfl, rfl, hi, hbel⟩ := hrel
    have HBW := hide hbel
    have i0 : (0 : Int) ≤ (i : Int) := Int.natCast_nonneg _
    obtain ⟨⟨s0, s1⟩, s2, s3⟩ := sumS_ok (L.take i)
    by_cases h : i < n
    · have i1 : (i : Int) < (n : Int) := by omega
      have iz : decide ((i : Int) < (n : Int)) = true := decide_eq_true i1
      obtain ⟨x, hx⟩ := get_some (unhide HL) h
      obtain ⟨rfl, hp, k0⟩ := (unhide HU _ hbel).byte hx
      obtain ⟨x0, x1⟩ := unhide HBy x (List.mem_of_getElem? hx)
      have HT := hide (sumS_take hx)
      clear hx hbel
      obtain ⟨a, ha⟩ : ∃ a, (sumS (L.take i)).1 = a := ⟨_, rfl⟩
      obtain ⟨b, hb⟩ : ∃ b, (sumS (L.take i)).2 = b := ⟨_, rfl⟩
      rw [ha] at s0 s1 ⊢
      rw [hb] at s2 s3 ⊢
      have HA := hide ha
      have HB := hide hb
      clear ha hb
      obtain ⟨a', ha'⟩ : ∃ a', (a + x) % 251 = a' := ⟨_, rfl⟩
      obtain ⟨b', hb'⟩ : ∃ b', (b + a') % 251 = b' := ⟨_, rfl⟩
      have q0 : 0 ≤ a' ∧ a' < 251 := by omega
      have t1 : (a + x).tmod 251 = a' := by rw [Int.tmod_eq_emod_of_nonneg (by omega)]; exact ha'
      have t2 : (b + a').tmod 251 = b' := by rw [Int.tmod_eq_emod_of_nonneg (by omega)]; exact hb'
      have HR : Hid (sumS (L.take (i + 1)) = (a', b')) := hide (by rw [unhide HT]; unfold stepS; rw [unhide HA, unhide HB, ha', hb'])
      go_wp2_with fail
      go_roundw
      case rel => exact ⟨i + 1, by rw [unhide HR], by rw [unhide HR], by simp, h, unhide HBW⟩
      case measure => simp only [intOf]; omega
    · have i1 : ¬ (i : Int) < (n : Int) := by omega
      have iz : decide ((i : Int) < (n : Int)) = false := decide_eq_false i1
      have en : i = n := by omega
      subst en
      have e : L.take i = L := List.take_of_length_le (by rw [unhide HL]; omega)
      rw [e] at s0 s1 s2 s3 ⊢
      clear hbel
      go_wp2_with fail
      go_ret
      exact ⟨rfl, unhide HBW⟩
def sumV (L : List Int) : Value := .agg #[.int .u8 (sumS L).2, .int .u8 (sumS L).1]
set_option maxHeartbeats 1000000 in
theorem sumP_any (u : Option Addr) (p po n c : Nat) (L : List Int) (w : World) (hl : L.length = n) (hn : n ≤ 9223372036854775807) (hu : SlG byc 1 w u p po L) (hL : Byt L) :
    Calls Try.prog 18 #[.slice u n c] w fun e w' => e = .returned (sumV L) ∧ Below w.heap.size w w' := by
  have HU := hide (fun W (hW : Below w.heap.size w W) => hu.bel hW)
  have HL := hide hl
  have HBy := hide hL
  have HV := hide (vb_new w 38 [.int .u8 0, .int .u8 0] w.heap.size rfl)
  have HB0 := hide (ba (Below.refl w.heap.size w) (.cells #[.int .u8 0, .int .u8 0] 38))
  clear hu hl hL
  go_enter Try.func18, Try.ntmps18
  go_wp2
  go_loopw [3, 4, 9] (fun a b s W => ∃ i : Nat, a = .int .i64 (sumS (L.take i)).1 ∧ b = .int .i64 (sumS (L.take i)).2 ∧ s = .int .i64 (i : Int) ∧ i ≤ n ∧ vb W w.heap.size 38 [.int .u8 0, .int .u8 0] ∧ Below w.heap.size w W) (fun _ _ s _ => n - (intOf s).toNat)
  case atStart => exact ⟨0, by simp [sumS], by simp [sumS], rfl, Nat.zero_le _, unhide HV, unhide HB0⟩
  case round =>
    obtain ⟨i, rfl, rfl, rfl, hi, hv, hbel⟩ := hrel
    have HVW := hide hv
    have HBW := hide hbel
    have i0 : (0 : Int) ≤ (i : Int) := Int.natCast_nonneg _
    obtain ⟨⟨s0, s1⟩, s2, s3⟩ := sumS_ok (L.take i)
    by_cases h : i < n
    · have i1 : (i : Int) < (n : Int) := by omega
      have iz : decide ((i : Int) < (n : Int)) = true := decide_eq_true i1
      obtain ⟨x, hx⟩ := get_some (unhide HL) h
      obtain ⟨rfl, hp, k0⟩ := (unhide HU _ hbel).byte hx
      obtain ⟨x0, x1⟩ := unhide HBy x (List.mem_of_getElem? hx)
      have HT := hide (sumS_take hx)
      clear hx hv hbel
      obtain ⟨a, ha⟩ : ∃ a, (sumS (L.take i)).1 = a := ⟨_, rfl⟩
      obtain ⟨b, hb⟩ : ∃ b, (sumS (L.take i)).2 = b := ⟨_, rfl⟩
      rw [ha] at s0 s1 ⊢
      rw [hb] at s2 s3 ⊢
      have HA := hide ha
      have HB := hide hb
      clear ha hb
      obtain ⟨a', ha'⟩ : ∃ a', (a + x) % 251 = a' := ⟨_, rfl⟩
      obtain ⟨b', hb'⟩ : ∃ b', (b + a') % 251 = b' := ⟨_, rfl⟩
      have q0 : 0 ≤ a' ∧ a' < 251 := by omega
      have t1 : (a + x).tmod 251 = a' := by rw [Int.tmod_eq_emod_of_nonneg (by omega)]; exact ha'
      have t2 : (b + a').tmod 251 = b' := by rw [Int.tmod_eq_emod_of_nonneg (by omega)]; exact hb'
      have HR : Hid (sumS (L.take (i + 1)) = (a', b')) := hide (by rw [unhide HT]; unfold stepS; rw [unhide HA, unhide HB, ha', hb'])
      go_wp2_with fail
      go_roundw
      case rel => exact ⟨i + 1, by rw [unhide HR], by rw [unhide HR], by simp, h, unhide HVW, unhide HBW⟩
      case measure => simp only [intOf]; omega
    · have i1 : ¬ (i : Int) < (n : Int) := by omega
      have iz : decide ((i : Int) < (n : Int)) = false := decide_eq_false i1
      have en : i = n := by omega
      subst en
      have e : L.take i = L := List.take_of_length_le (by rw [unhide HL]; omega)
      rw [e] at s0 s1 s2 s3 ⊢
      have c0 := hv.cell (m := 0) rfl
      have c1 := hv.cell (m := 1) rfl
      have fz : ∀ o, wr.frozen? ⟨w.heap.size, o, none⟩ = false := hv.frozen
      have hlt := hv.lt
      clear hv hbel
      go_wp2_with fail
      have h1 := ((unhide HVW).set 0 (.int .u8 (sumS L).2)).set 1 (.int .u8 (sumS L).1)
      simp only [List.set_cons_zero, List.set_cons_succ] at h1
      have z0 := h1.cell (m := 0) rfl
      have z1 := h1.cell (m := 1) rfl
      exact bodyPost_ret (v := sumV L) (by simp [results, Try.results18, go_sem, z0, z1, sumV]) rfl ⟨rfl, ((unhide HBW).setCell (p := ⟨w.heap.size, 0, none⟩) (Nat.le_refl _) _).setCell (p := ⟨w.heap.size, 1, none⟩) (Nat.le_refl _) _⟩
theorem fsM_any (u : Option Addr) (p po n c : Nat) (L : List Int) (w : World) (hl : L.length = n) (hn : n ≤ 9223372036854775807) (hu : SlG byc 1 w u p po L) (hL : Byt L) :
    Calls Try.prog 5 #[.slice u n c] w fun e w' => e = .returned (.int .i64 (if 65536 < n then 0 else sumN L)) ∧ Below w.heap.size w w' := by
  by_cases h : 65536 < n
  · have t : decide ((65536 : Int) < (n : Int)) = true := decide_eq_true (by omega)
    rw [if_pos h]
    go_enter Try.func5, Try.ntmps5
    go_wp2_with fail
    go_ret
    exact ⟨rfl, Below.refl _ _⟩
  · have t : decide ((65536 : Int) < (n : Int)) = false := decide_eq_false (by omega)
    have t2 : ¬ (65536 : Int) < (n : Int) := by omega
    rw [if_neg h]
    have HC := hide (sumM_any u p po n c L w hl hn hu hL)
    clear hu hl hL
    go_enter Try.func5, Try.ntmps5
    go_wp2_with fail
    refine (unhide HC).mono ?_
    rintro e W ⟨rfl, hb⟩
    have HB := hide hb
    clear hb
    go_wp2_with fail
    go_ret
    exact ⟨rfl, unhide HB⟩
theorem fsP_any (u : Option Addr) (p po n c : Nat) (L : List Int) (w : World) (hl : L.length = n) (hn : n ≤ 9223372036854775807) (hu : SlG byc 1 w u p po L) (hL : Byt L) :
    Calls Try.prog 7 #[.slice u n c] w fun e w' => e = .returned (.int .i64 (if 65536 < n then 0 else sumN L)) ∧ Below w.heap.size w w' := by
  by_cases h : 65536 < n
  · have t : decide ((65536 : Int) < (n : Int)) = true := decide_eq_true (by omega)
    rw [if_pos h]
    go_enter Try.func7, Try.ntmps7
    go_wp2_with fail
    go_ret
    exact ⟨rfl, Below.refl _ _⟩
  · have t : decide ((65536 : Int) < (n : Int)) = false := decide_eq_false (by omega)
    have t2 : ¬ (65536 : Int) < (n : Int) := by omega
    rw [if_neg h]
    have HC := hide (sumP_any u p po n c L w hl hn hu hL)
    obtain ⟨⟨s0, s1⟩, s2, s3⟩ := sumS_ok L
    have HN := hide (fun X => num_any (sumS L).2 (sumS L).1 X s2 (by omega) s0 (by omega))
    clear hu hl hL
    unfold sumV at HC
    unfold sumN
    go_enter Try.func7, Try.ntmps7
    go_wp2_with fail
    refine (unhide HC).mono ?_
    rintro e W ⟨rfl, hb⟩
    have HB := hide hb
    clear hb
    go_wp2_with fail
    refine (unhide HN _).mono ?_
    rintro e W2 ⟨rfl, hb⟩
    have HB2 := hide (bc (unhide HB) hb)
    clear hb
    go_wp2_with fail
    go_ret
    exact ⟨rfl, unhide HB2⟩
end Go.Proofs.Ytibcgimggcdllaa
