/-
  The program's code of links: too many, not right, right.
-/
import Derived.Test.YtmhdodecofpchaaWrongP
namespace Go.Proofs.Ytmhdodecofpchaa
open Go.ChangeShapes Go.WideShapes Go.ChangeAt Go.RowKit Go.Maps Go.WideMaps
set_option linter.unusedVariables false
set_option linter.unusedSimpArgs false

theorem omap_blk {P : Program} {k b n : Nat} {R : Value → Option (DataW Unit × List MemPlace)} {D : DataW Unit} {w w' : World} (h : w.ownsMap P k R b n D) (hb : w'.heap[b]? = w.heap[b]?) : w'.ownsMap P k R b n D := by
  obtain ⟨es, clock, hb', r⟩ := h
  exact ⟨es, clock, hb.trans hb', r⟩
theorem lawK : Keyed Try.prog 9 := string_keyed Try.underlying9

set_option maxHeartbeats 4000000 in
set_option maxRecDepth 100000 in
theorem linksP_any (u : Option Addr) (p po n cu : Nat) (ls : List Lk) (w : World) (hl : ls.length = n) (hn : n ≤ 1048576) (hsz : ∀ l ∈ ls, l.nm.size ≤ 1048576) (hu : Lks w u p po ls) :
    Calls Try.prog 32 #[.slice u n cu] w fun e w' => e = .returned (.int .i64 (lkCode ls)) ∧ Below w.heap.size w w' := by
  by_cases h0 : 4096 < n
  · rw [show lkCode ls = 2 by simp [lkCode]; omega]
    have t0 : decide ((4096 : Int) < (n : Int)) = true := decide_eq_true (by omega)
    go_enter Try.func32, Try.ntmps32
    go_wp2_with fail
    go_ret
    exact ⟨rfl, Below.refl _ _⟩
  have t0 : decide ((4096 : Int) < (n : Int)) = false := decide_eq_false (by omega)
  have HB0 := hide (fun W => btw_any (n : Int) 1 40 W)
  by_cases h1 : 1 ≤ n ∧ n ≤ 40
  rotate_left
  · rw [show lkCode ls = 1 by simp [lkCode, rightB_false (ls := ls) (fun hr => h1 ⟨by have := hr.1; omega, by have := hr.2.1; omega⟩)]; omega]
    rw [show btw (n : Int) 1 40 = false from decide_eq_false (by omega)] at HB0
    clear h1 hu hsz
    go_enter Try.func32, Try.ntmps32
    go_wp2_with fail
    refine (unhide HB0 _).mono ?_
    rintro e W1 ⟨rfl, rfl⟩
    go_wp2_with fail
    go_ret
    exact ⟨rfl, Below.refl _ _⟩
  rw [show btw (n : Int) 1 40 = true from decide_eq_true (by omega)] at HB0
  have HH := hide (has_any u p po n cu ls w hl hn hsz hu)
  by_cases hb : badB ls = true
  · rw [show lkCode ls = 1 by simp [lkCode, rightB_false (badB_true hb)]; omega]
    rw [hb] at HH
    clear h1 hu hsz hb
    go_enter Try.func32, Try.ntmps32
    go_wp2_with fail
    refine (unhide HB0 _).mono ?_
    rintro e W1 ⟨rfl, rfl⟩
    go_wp2_with fail
    refine (unhide HH).mono ?_
    rintro e W2 ⟨rfl, hb⟩
    have HB := hide hb
    clear hb
    go_wp2_with fail
    go_ret
    exact ⟨rfl, unhide HB⟩
  have hbf : badB ls = false := by simpa using hb
  rw [hbf] at HH
  have HOK := hide (badB_false hbf)
  have hcode : lkCode ls = if decide (¬ (names ls).Nodup) = true then 1 else 0 := by
    unfold lkCode
    rw [if_neg (by omega)]
    by_cases hd : (names ls).Nodup
    · rw [rightB_true ⟨by omega, by omega, unhide HOK, hd⟩]
      simp [hd]
    · rw [rightB_false (fun hr => hd hr.2.2.2)]
      simp [hd]
  rw [hcode, ← Dn_lt, hl]
  have HU := hide hu
  have HL := hide hl
  have HS := hide hsz
  clear hu hl hsz hb hbf HOK hcode
  obtain ⟨h1a, h1b⟩ := h1
  have n0 : (0 : Int) ≤ (n : Int) := Int.natCast_nonneg _
  have hmm := @run_makeMap Try.prog
  generalize hT : decide (((Maps.size (Dn ls n) : Nat) : Int) < (n : Int)) = T
  have HT := hide hT
  clear hT
  go_enter Try.func32, Try.ntmps32
  go_wp2_with fail
  refine (unhide HB0 _).mono ?_
  rintro e W1 ⟨rfl, rfl⟩
  go_wp2_with fail
  refine (unhide HH).mono ?_
  rintro e W2 ⟨rfl, hb⟩
  have HB := hide hb
  clear hb
  go_wp2_with fail
  go_loopw [20] (fun z wr => ∃ k : Nat, k ≤ n ∧ z = .int .i64 (k : Int) ∧ wr.ownsMap Try.prog 9 (plainElem Try.prog 3) W2.heap.size k (Dn ls k) ∧ Below W2.heap.size W2 wr)
    (fun z _ => n - (intOf z).toNat)
  case atStart => exact ⟨0, Nat.zero_le _, rfl, World.ownsMap_made _ _ _ _, (Below.refl _ _).alloc (Nat.le_refl _) _⟩
  case round =>
    obtain ⟨k, hk, rfl, hown, hnx⟩ := hrel
    by_cases h : k < n
    · have i1 : (k : Int) < (n : Int) := by omega
      have i0 : (0 : Int) ≤ (k : Int) := Int.natCast_nonneg _
      have iz : decide ((k : Int) < (n : Int)) = true := decide_eq_true i1
      obtain ⟨⟨s, a, b, c, d⟩, hx⟩ := get_some (unhide HL) h
      obtain ⟨rfl, pw, k0, k1, k2, k3, k4⟩ := ((unhide HU).bel (bc (unhide HB) hnx)).at hx
      simp only at k0 k1 k2 k3 k4
      have HX := hide hx
      have hkey : keyOf Try.prog 9 (.string s) = some (keyL s) := keyOf_string_mk Try.underlying9 (Nat.le_trans (unhide HS _ (List.mem_of_getElem? hx)) (by decide))
      have hval : plainElem (H := Unit) Try.prog 3 (.int .i64 (k : Int)) = some (.lit (.int .i64 (k : Int)), []) := plainElem_int Try.underlying3 (by simp [Lit.wf, IntKind.min, IntKind.max, IntKind.bits, IntKind.signed]; omega)
      have hownA : (wr.alloc (.cells #[.string s, .int .i64 a, .int .i64 b, .int .i64 c, .int .i64 d] 29)).ownsMap Try.prog 9 (plainElem Try.prog 3) W2.heap.size k (Dn ls k) := omap_blk hown (by
        have := hown.lt
        show (wr.heap.push _)[W2.heap.size]? = _
        rw [Array.getElem?_push, if_neg (by omega)])
      have HNX := hide hnx
      have HOWN := hide hown
      clear pw hx hnx hown
      go_wp2_with (first
        | (at_mapUpdate; refine wpList_mapUpdate_own _ rfl _ _ _ 90 rfl 9 3 lawK Try.underlying90 (plainElem (H := Unit) Try.prog 3) W2.heap.size k _ rfl hownA (by unfold maxLen; omega) _ _ _ rfl rfl hkey _ [] hval ?_; intro w1 hown1 hgrow1)
        | go_in)
      have HO1 := hide hown1
      have HG1 := hide hgrow1
      clear hown1 hgrow1 hownA
      go_wp2_with fail
      go_roundw
      case rel =>
        refine ⟨k + 1, h, by simp, ?_, ?_⟩
        · have e : Dn ls (k + 1) = (Dn ls k).put (keyL s) (.lit (.int .i64 (k : Int))) := by
            show (Dn ls k).put (keyL ((ls[k]?).getD lk0).nm) _ = _
            rw [unhide HX, Option.getD_some]
          rw [e]
          exact unhide HO1
        · exact ((unhide HNX).alloc (unhide HNX).size _).grown (unhide HG1) (Nat.le_trans (unhide HNX).size (by simp)) (fun j hj => by cases hj; exact Nat.le_refl _)
      case measure => simp only [intOf]; omega
    · have i1 : ¬ (k : Int) < (n : Int) := by omega
      have iz : decide ((k : Int) < (n : Int)) = false := decide_eq_false i1
      have en : k = n := by omega
      subst en
      have HNX := hide hnx
      have hT := unhide HT
      clear hnx
      generalize hzs : Maps.size (Dn ls k) = zs at *
      by_cases hq : zs < k
      · have q1 : (zs : Int) < (k : Int) := by omega
        have q2 : decide (zs < k) = true := decide_eq_true hq
        have q3 : decide ((zs : Int) < (k : Int)) = true := decide_eq_true q1
        rw [q3] at hT
        subst hT
        go_wp2_with (first
          | (at_len; refine wpList_len_own _ rfl _ 90 rfl 9 3 Try.underlying90 _ W2.heap.size k _ rfl hown ?_; rw [hzs])
          | go_in)
        go_ret
        exact ⟨rfl, bc (unhide HB) (unhide HNX)⟩
      · have q1 : ¬ (zs : Int) < (k : Int) := by omega
        have q2 : decide (zs < k) = false := decide_eq_false hq
        have q3 : decide ((zs : Int) < (k : Int)) = false := decide_eq_false q1
        rw [q3] at hT
        subst hT
        go_wp2_with (first
          | (at_len; refine wpList_len_own _ rfl _ 90 rfl 9 3 Try.underlying90 _ W2.heap.size k _ rfl hown ?_; rw [hzs])
          | go_in)
        go_ret
        exact ⟨rfl, bc (unhide HB) (unhide HNX)⟩
end Go.Proofs.Ytmhdodecofpchaa
