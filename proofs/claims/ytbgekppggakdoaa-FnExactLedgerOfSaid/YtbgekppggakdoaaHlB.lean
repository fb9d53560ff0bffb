/-
  Whether a slot names a step, and the next slot of a job.
-/
import Derived.Test.YtbgekppggakdoaaHlA
namespace Go.Proofs.Ytbgekppggakdoaa
open Go.ChangeShapes Go.WideShapes Go.ChangeAt Go.RowKit
set_option linter.unusedVariables false
set_option linter.unusedSimpArgs false

def slv (p : Slt) : Value := .agg #[.int .i64 p.jb, .int .i64 p.st, .int .i64 p.mc, .int .i64 p.fr, .int .i64 p.ti, .bool p.fs]
theorem stOf_jb {J : List Jb} {p : Slt} (h : p.jb < 0 ∨ (J.length : Int) ≤ p.jb) : stOf J p = none := by
  cases hs : stOf J p with
  | none => rfl
  | some s =>
    obtain ⟨a, b, c, j, hj, d⟩ := stOf_some hs
    have := (List.getElem?_eq_some_iff.1 hj).1
    omega
theorem stOf_st {J : List Jb} {p : Slt} {j : Jb} (hj : J[p.jb.toNat]? = some j) (h : p.st < 0 ∨ (j.st.length : Int) ≤ p.st) : stOf J p = none := by
  cases hs : stOf J p with
  | none => rfl
  | some s =>
    obtain ⟨a, b, c, j', hj', d⟩ := stOf_some hs
    rw [hj] at hj'
    cases hj'
    have := (List.getElem?_eq_some_iff.1 d).1
    omega
theorem stOf_mc {J : List Jb} {p : Slt} {j : Jb} {s : Stp} (hj : J[p.jb.toNat]? = some j) (hs : j.st[p.st.toNat]? = some s) (h : s.m ≠ p.mc) : stOf J p = none := by
  cases hs' : stOf J p with
  | none => rfl
  | some s' =>
    obtain ⟨a, b, c, j', hj', d⟩ := stOf_some hs'
    rw [hj] at hj'
    cases hj'
    rw [hs] at d
    cases d
    exact absurd c h
set_option maxHeartbeats 4000000 in
theorem hasS_any (hb gm gs m : Nat) (S L : Int) (u : Option Addr) (p po n c : Nat) (J : List Jb) (h : Hl) (x : Slt) (w : World) (hn : n ≤ 4096) (H : Hm w hb gm gs m S L u n c h) (hl : J.length = n) (hu : Jbs w u p po J) :
    Calls Try.prog 70 #[.pointer (some ⟨hb, 0, none⟩), .agg #[.int .i64 x.jb, .int .i64 x.st, .int .i64 x.mc, .int .i64 x.fr, .int .i64 x.ti, .bool x.fs]] w fun e w' => e = .returned (.bool (stOf J x).isSome) ∧ Below w.heap.size w w' := by
  have k3 := H.hd.cell (m := 3) rfl
  have l1 := H.hd.lt
  have n0 : (0 : Int) ≤ (n : Int) := Int.natCast_nonneg _
  have wn : IntKind.i64.wrap ((n : Int) - 1) = (n : Int) - 1 := wrap_i (by omega) (by omega)
  have HU := hide hu
  have HL := hide hl
  clear H hu hl
  by_cases g1 : 0 ≤ x.jb ∧ x.jb < (n : Int)
  rotate_left
  · have b1 : inR 0 ((n : Int) - 1) x.jb = false := by
      cases hq : inR 0 ((n : Int) - 1) x.jb with
      | false => rfl
      | true => have := inR_iff.1 hq; omega
    have HO : Hid (stOf J x = none) := hide (stOf_jb (by rw [unhide HL]; omega))
    have HC := hide (fun W => bt_any x.jb 0 ((n : Int) - 1) W)
    rw [b1] at HC
    clear g1 b1
    go_enter Try.func70, Try.ntmps70
    go_wp2_with fail
    go_quiet ((go_at_call 31; refine (unhide HC _).mono ?_; rintro e w' ⟨rfl, rfl⟩; exact ⟨rfl, _, rfl⟩))
    go_wp2_with fail
    go_ret
    exact ⟨by rw [unhide HO]; rfl, bel_dn' (ba (Below.refl _ _) _) _⟩
  have b1 : inR 0 ((n : Int) - 1) x.jb = true := inR_iff.2 ⟨g1.1, by omega⟩
  have HC := hide (fun W => bt_any x.jb 0 ((n : Int) - 1) W)
  rw [b1] at HC
  clear b1
  obtain ⟨jb, st, mc, fr, ti, fs⟩ := x
  simp only [] at *
  obtain ⟨q, rfl⟩ := Int.eq_ofNat_of_zero_le g1.1
  obtain ⟨q0, q1⟩ := g1
  obtain ⟨j, hj⟩ := get_some (unhide HL) (show q < n by omega)
  obtain ⟨rfl, pw, _, _, k2⟩ := (unhide HU).at hj
  have hjo := (unhide HU).each j (List.mem_of_getElem? hj)
  have HJ := hide hj
  have HJO := hide hjo
  have s0 : (0 : Int) ≤ (j.sn : Int) := Int.natCast_nonneg _
  have hsm := hjo.most
  have ws : IntKind.i64.wrap ((j.sn : Int) - 1) = (j.sn : Int) - 1 := wrap_i (by omega) (by omega)
  clear hj hjo
  by_cases g2 : 0 ≤ st ∧ st < (j.sn : Int)
  rotate_left
  · have b2 : inR 0 ((j.sn : Int) - 1) st = false := by
      cases hq : inR 0 ((j.sn : Int) - 1) st with
      | false => rfl
      | true => have := inR_iff.1 hq; omega
    have HO : Hid (stOf J ⟨q, st, mc, fr, ti, fs⟩ = none) := hide (stOf_st (j := j) (by simpa using unhide HJ) (by rw [(unhide HJO).len]; simp only; omega))
    have HD := hide (fun W => bt_any st 0 ((j.sn : Int) - 1) W)
    rw [b2] at HD
    clear g2 b2
    go_enter Try.func70, Try.ntmps70
    go_wp2_with fail
    go_quiet ((go_at_call 31; refine (unhide HC _).mono ?_; rintro e w' ⟨rfl, rfl⟩; exact ⟨rfl, _, rfl⟩))
    go_wp2_with fail
    go_quiet (fail)
    go_wp2_with fail
    go_quiet ((go_at_call 31; refine (unhide HD _).mono ?_; rintro e w' ⟨rfl, rfl⟩; exact ⟨rfl, _, rfl⟩))
    go_wp2_with fail
    go_ret
    exact ⟨by rw [unhide HO]; rfl, by repeat (first | exact ba (Below.refl _ _) _ | refine bel_dn' ?_ _)⟩
  have b2 : inR 0 ((j.sn : Int) - 1) st = true := inR_iff.2 ⟨g2.1, by omega⟩
  have HD := hide (fun W => bt_any st 0 ((j.sn : Int) - 1) W)
  rw [b2] at HD
  clear b2
  obtain ⟨k, rfl⟩ := Int.eq_ofNat_of_zero_le g2.1
  obtain ⟨k0, k1⟩ := g2
  obtain ⟨s, hs⟩ := get_some (unhide HJO).len (show k < j.sn by omega)
  obtain ⟨hsu, pw2, z0, _, _, _⟩ := (unhide HJO).at hs
  rw [hsu] at k2
  have HS := hide hs
  clear hs
  by_cases g3 : s.m = mc
  · have b3 : (s.m == mc) = true := by simp [g3]
    have HO : Hid (stOf J ⟨q, k, mc, fr, ti, fs⟩ = some s) := hide (stOf_mk (j := j) (by simp) (by simp) (by simpa using unhide HJ) (by simpa using unhide HS) g3)
    clear g3
    go_enter Try.func70, Try.ntmps70
    go_wp2_with fail
    go_quiet ((go_at_call 31; refine (unhide HC _).mono ?_; rintro e w' ⟨rfl, rfl⟩; exact ⟨rfl, _, rfl⟩))
    go_wp2_with fail
    go_quiet (fail)
    go_wp2_with fail
    go_quiet ((go_at_call 31; refine (unhide HD _).mono ?_; rintro e w' ⟨rfl, rfl⟩; exact ⟨rfl, _, rfl⟩))
    go_wp2_with fail
    go_ret
    exact ⟨by rw [unhide HO]; rfl, by repeat (first | exact ba (Below.refl _ _) _ | refine bel_dn' ?_ _)⟩
  · have b3 : (s.m == mc) = false := by simp [g3]
    have HO : Hid (stOf J ⟨q, k, mc, fr, ti, fs⟩ = none) := hide (stOf_mc (j := j) (by simpa using unhide HJ) (by simpa using unhide HS) g3)
    clear g3
    go_enter Try.func70, Try.ntmps70
    go_wp2_with fail
    go_quiet ((go_at_call 31; refine (unhide HC _).mono ?_; rintro e w' ⟨rfl, rfl⟩; exact ⟨rfl, _, rfl⟩))
    go_wp2_with fail
    go_quiet (fail)
    go_wp2_with fail
    go_quiet ((go_at_call 31; refine (unhide HD _).mono ?_; rintro e w' ⟨rfl, rfl⟩; exact ⟨rfl, _, rfl⟩))
    go_wp2_with fail
    go_ret
    exact ⟨by rw [unhide HO]; rfl, by repeat (first | exact ba (Below.refl _ _) _ | refine bel_dn' ?_ _)⟩
end Go.Proofs.Ytbgekppggakdoaa
