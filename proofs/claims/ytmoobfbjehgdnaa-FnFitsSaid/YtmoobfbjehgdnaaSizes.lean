/-
  Sizes: whether one is right, and whether all of a row are.
-/
import Derived.Test.YtmoobfbjehgdnaaItRows
import Derived.Shelf.Abstract
namespace Go.Proofs.Ytmoobfbjehgdnaa
open Go.ChangeShapes Go.WideShapes Go.ChangeAt Go.RowKit Go.Shelf
set_option linter.unusedVariables false
set_option linter.unusedSimpArgs false

theorem entersWS : ∀ args w, (callFunc 32 args).run Try.prog w = .ok (.enter 32 args) w := enters_of Try.func32 (by kernel_rfl) rfl
theorem take_succ_mem {α : Type} {ls : List α} {i : Nat} {l : α} (h : ls[i]? = some l) (p : α → Prop) : (∀ x ∈ ls.take (i + 1), p x) ↔ (∀ x ∈ ls.take i, p x) ∧ p l := by
  rw [List.take_add_one, h]
  simp only [Option.toList_some, List.mem_append, List.mem_singleton]
  constructor
  · intro hx; exact ⟨fun x h1 => hx x (.inl h1), hx l (.inr rfl)⟩
  · rintro ⟨h1, h2⟩ x (h3 | h3)
    · exact h1 x h3
    · rw [h3]; exact h2
def btw (x a b : Int) : Bool := decide (a ≤ x ∧ x ≤ b)
theorem btw_any (x a b : Int) (w : World) : Calls Try.prog 33 #[.int .i64 x, .int .i64 a, .int .i64 b] w fun e w' => e = .returned (.bool (btw x a b)) ∧ w' = w := by
  by_cases h0 : a ≤ x
  · have t0 : decide (a ≤ x) = true := decide_eq_true h0
    by_cases h1 : x ≤ b
    · have t1 : decide (x ≤ b) = true := decide_eq_true h1
      rw [show btw x a b = true from decide_eq_true ⟨h0, h1⟩]
      go_enter Try.func33, Try.ntmps33
      go_wp2
      go_ret
      exact ⟨rfl, rfl⟩
    · have t1 : decide (x ≤ b) = false := decide_eq_false h1
      rw [show btw x a b = false from decide_eq_false (fun h => h1 h.2)]
      go_enter Try.func33, Try.ntmps33
      go_wp2
      go_ret
      exact ⟨rfl, rfl⟩
  · have t0 : decide (a ≤ x) = false := decide_eq_false h0
    rw [show btw x a b = false from decide_eq_false (fun h => h0 h.1)]
    go_enter Try.func33, Try.ntmps33
    go_wp2
    go_ret
    exact ⟨rfl, rfl⟩

def szB (x : Int) : Bool := btw x 0 100000
theorem wsz_any (x : Int) (w : World) : Calls Try.prog 32 #[.int .i64 x] w fun e w' => e = .returned (.bool (!szB x)) ∧ w' = w := by
  have HB := hide (fun W => btw_any x 0 100000 W)
  rw [show szB x = btw x 0 100000 from rfl]
  generalize btw x 0 100000 = b at *
  go_enter Try.func32, Try.ntmps32
  go_wp2_with fail
  refine (unhide HB _).mono ?_
  rintro e W1 ⟨rfl, rfl⟩
  go_wp2_with fail
  go_ret
  exact ⟨rfl, rfl⟩
def badS (L : List Int) : Bool := L.any fun x => !szB x
/-- the first size that is not right, or none -/
theorem six_any (u : Option Addr) (p po n cu : Nat) (L : List Int) (w : World) (hl : L.length = n) (hn : n ≤ 1048576) (hu : Its w u p po L) :
    Calls Try.prog 41 #[.slice u n cu, .func (.func 32) #[] #[]] w fun e w' => (∃ r : Int, e = .returned (.int .i64 r) ∧ decide (0 ≤ r) = badS L) ∧ w' = w := by
  have HU := hide hu
  have HL := hide hl
  have n0 : (0 : Int) ≤ (n : Int) := Int.natCast_nonneg _
  clear hu hl
  have EW := entersWS
  go_enter Try.func41, Try.ntmps41
  go_wp2
  go_loopw [8] (fun z W => ∃ i : Nat, z = .int .i64 (i : Int) ∧ i ≤ n ∧ (∀ l ∈ L.take i, szB l = true) ∧ W = w) (fun z _ => n - (intOf z).toNat)
  case atStart => exact ⟨0, rfl, Nat.zero_le _, by simp, rfl⟩
  case round =>
    obtain ⟨i, rfl, hi, hall, rfl⟩ := hrel
    have HA := hide hall
    clear hall
    by_cases h : i < n
    · have i1 : (i : Int) < (n : Int) := by omega
      have i0 : (0 : Int) ≤ (i : Int) := Int.natCast_nonneg _
      have iz : decide ((i : Int) < (n : Int)) = true := decide_eq_true i1
      obtain ⟨x, hx⟩ := get_some (unhide HL) h
      obtain ⟨rfl, pw, k0⟩ := (unhide HU).at hx
      have HX := hide hx
      have HN := hide (fun W => wsz_any x W)
      clear pw hx
      by_cases q : szB x = true
      · rw [q] at HN
        go_wp2_with fail
        refine (unhide HN _).mono ?_
        rintro e W1 ⟨rfl, rfl⟩
        go_wp2_with fail
        go_roundw
        case rel => exact ⟨i + 1, by simp, h, (take_succ_mem (unhide HX) (fun l => szB l = true)).2 ⟨unhide HA, q⟩, by first | rfl | trivial⟩
        case measure => simp only [intOf]; omega
      · have q' : szB x = false := by simpa using q
        rw [q'] at HN
        go_wp2_with fail
        refine (unhide HN _).mono ?_
        rintro e W1 ⟨rfl, rfl⟩
        go_wp2_with fail
        go_ret
        refine ⟨⟨(i : Int), rfl, ?_⟩, rfl⟩
        have hb : badS L = true := by
          unfold badS
          rw [List.any_eq_true]
          exact ⟨_, List.mem_of_getElem? (unhide HX), by rw [q']; rfl⟩
        first | exact hb.symm | (rw [hb]; exact decide_eq_true i0)
    · have i1 : ¬ (i : Int) < (n : Int) := by omega
      have iz : decide ((i : Int) < (n : Int)) = false := decide_eq_false i1
      go_wp2_with fail
      go_ret
      refine ⟨⟨-1, rfl, ?_⟩, rfl⟩
      have hb : badS L = false := by
        unfold badS
        rw [List.any_eq_false]
        intro l hl
        have h1 := unhide HA
        rw [List.take_of_length_le (by rw [unhide HL]; omega)] at h1
        simp [h1 l hl]
      rw [hb]
      rfl
theorem shas_any (u : Option Addr) (p po n cu : Nat) (L : List Int) (w : World) (hl : L.length = n) (hn : n ≤ 1048576) (hu : Its w u p po L) :
    Calls Try.prog 31 #[.slice u n cu, .func (.func 32) #[] #[]] w fun e w' => e = .returned (.bool (badS L)) ∧ w' = w := by
  have HI := hide (six_any u p po n cu L w hl hn hu)
  clear hu
  go_enter Try.func31, Try.ntmps31
  go_wp2_with fail
  refine (unhide HI).mono ?_
  rintro e W1 ⟨⟨r, rfl, hr⟩, rfl⟩
  go_wp2_with fail
  go_ret
  exact ⟨ret_bool (by first | rfl | simpa using hr | exact hr), rfl⟩
end Go.Proofs.Ytmoobfbjehgdnaa
