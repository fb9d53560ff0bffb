/-
  The program's Bent at every argument.
-/
import Derived.Test.YtimkinpbimangaaMeP
namespace Go.Proofs.Ytimkinpbimangaa
open Go.ChangeShapes Go.WideShapes Go.ChangeAt Go.RowKit
set_option linter.unusedVariables false
set_option linter.unusedSimpArgs false

set_option maxHeartbeats 4000000 in
set_option maxRecDepth 100000 in
theorem bnP_any (u v : Option Addr) (p po q qo n m cu cv : Nat) (ps bs : List Int) (w : World) (hl : ps.length = n) (hm : bs.length = m) (hn : n ≤ 1048576) (hm1 : m ≤ 1048576) (hu : Its w u p po ps) (hv : Its w v q qo bs) :
    Calls Try.prog 8 #[.slice u n cu, .slice v m cv] w fun e w' => (∃ r, e = .returned (.tuple #[r, .int .i64 (bnK ps bs).1, .int .i64 (bnK ps bs).2]) ∧ Row w' w.heap.size 32 2 r (bnL ps bs).length (fl2 (bnL ps bs))) ∧ Below w.heap.size w w' := by
  have n0 : (0 : Int) ≤ (n : Int) := Int.natCast_nonneg _
  have m0 : (0 : Int) ≤ (m : Int) := Int.natCast_nonneg _
  by_cases hL : 4096 < n ∨ 4096 < m
  · have HANS := hide (bn_long (ps := ps) (bs := bs) (by rw [hl, hm]; exact hL))
    have tL : decide ((4096 : Int) < max (n : Int) (m : Int)) = true := decide_eq_true (by omega)
    clear hl hm hu hv
    go_enter Try.func8, Try.ntmps8
    go_wp2_with fail
    exact bodyPost_ret (v := .tuple #[.slice none 0 0, .int .i64 2, .int .i64 0]) (by simp [results, Try.results8, go_sem]) rfl ⟨⟨_, by rw [(unhide HANS).1], by rw [(unhide HANS).2]; exact ⟨rfl, .inl ⟨rfl, rfl⟩⟩⟩, Below.refl _ _⟩
  have tL : decide ((4096 : Int) < max (n : Int) (m : Int)) = false := decide_eq_false (by omega)
  have hL' : ¬ (4096 < ps.length ∨ 4096 < bs.length) := by rw [hl, hm]; exact hL
  have HP := hide (pnP_any u p po n cu ps w hl (by omega) hu)
  have HC := hide (cnf35_any v q qo m cv bs w hm (by omega) hv)
  have HST : Hid (stp ps bs = (pnl ps && decide ((m : Int) = (n : Int) - 1) && bs.all (inR (-1) 1))) := hide (by unfold stp; rw [hl, hm])
  have HBAD : Hid (stp ps bs = false → bnK ps bs = (1, 0) ∧ bnL ps bs = []) := hide (fun h => bn_bad hL' h)
  have HGOOD : Hid (stp ps bs = true → fstB ps bs n = none → bnK ps bs = (0, 0) ∧ bnL ps bs = cns ps bs (n + 1)) := hide (fun h hf => by rw [← hl] at hf ⊢; exact bn_good hL' h hf)
  have HMEET : Hid (stp ps bs = true → ∀ i, fstB ps bs n = some i → bnK ps bs = (13, (i : Int)) ∧ bnL ps bs = []) := hide (fun h i hf => by rw [← hl] at hf; exact bn_meet hL' h hf)
  have HCOR := hide (fun (h : stp ps bs = true) => corP_any u v p po q qo n m cu cv ps bs w hl hm h hu hv)
  have HME := hide (fun (h : stp ps bs = true) (b cap : Nat) (W : World) (hb : b < W.heap.size) (hc : IntsAt W b 0 (fl2 (cns ps bs (n + 1)))) => meP_any b n cap ps bs W hl h hb hc)
  clear hu hv hl hm hL hL'
  go_enter Try.func8, Try.ntmps8
  go_wp2_with fail
  refine (unhide HP).mono ?_
  rintro e w' ⟨rfl, rfl⟩
  cases hq1 : pnl ps with
  | false =>
    have HANS := hide (unhide HBAD (by rw [unhide HST, hq1]; rfl))
    go_wp2_with fail
    exact bodyPost_ret (v := .tuple #[.slice none 0 0, .int .i64 1, .int .i64 0]) (by simp [results, Try.results8, go_sem]) rfl ⟨⟨_, by rw [(unhide HANS).1], by rw [(unhide HANS).2]; exact ⟨rfl, .inl ⟨rfl, rfl⟩⟩⟩, Below.refl _ _⟩
  | true =>
    by_cases hq2 : (m : Int) = (n : Int) - 1
    rotate_left
    · have e2 : ((m : Int) != (n : Int) - 1) = true := by simp [hq2]
      have HANS := hide (unhide HBAD (by rw [unhide HST, hq1, decide_eq_false hq2]; rfl))
      go_wp2_with fail
      exact bodyPost_ret (v := .tuple #[.slice none 0 0, .int .i64 1, .int .i64 0]) (by simp [results, Try.results8, go_sem]) rfl ⟨⟨_, by rw [(unhide HANS).1], by rw [(unhide HANS).2]; exact ⟨rfl, .inl ⟨rfl, rfl⟩⟩⟩, Below.refl _ _⟩
    have e2 : ((m : Int) != (n : Int) - 1) = false := by simp [hq2]
    have d2 : decide ((m : Int) = (n : Int) - 1) = true := decide_eq_true hq2
    have HQ2 := hide hq2
    have nm : (m : Int) ≤ (n : Int) := by omega
    clear hq2
    go_wp2_with fail
    refine (unhide HC).mono ?_
    rintro e w' ⟨rfl, rfl⟩
    cases hq3 : bs.all (inR (-1) 1) with
    | false =>
      have HANS := hide (unhide HBAD (by rw [unhide HST, hq1, hq3]; simp))
      go_wp2_with fail
      exact bodyPost_ret (v := .tuple #[.slice none 0 0, .int .i64 1, .int .i64 0]) (by simp [results, Try.results8, go_sem]) rfl ⟨⟨_, by rw [(unhide HANS).1], by rw [(unhide HANS).2]; exact ⟨rfl, .inl ⟨rfl, rfl⟩⟩⟩, Below.refl _ _⟩
    | true =>
      have hs : stp ps bs = true := by rw [unhide HST, hq1, hq3, d2]; rfl
      have HS := hide hs
      clear hs hq1 hq3 d2 e2
      go_wp2_with fail
      refine (unhide HCOR (unhide HS)).mono ?_
      rintro e W1 ⟨⟨r, rfl, hr⟩, hb1⟩
      obtain ⟨g, cap, rfl, hg, hgl, hcap, hcm⟩ := hr.sm (by
        intro e
        subst e
        have := hr.2
        rcases this with ⟨_, h0⟩ | ⟨_, _, _, h0, _⟩
        · exact absurd h0 (by omega)
        · cases h0)
      have HR := hide hr
      have HB1 := hide hb1
      clear hr hb1
      go_wp2_with fail
      refine (unhide HME (unhide HS) g cap _ hgl (unhide HR).ints).mono ?_
      rintro e W2 ⟨rfl, hb2⟩
      have HR2 := hide ((unhide HR).below hb2)
      have HB2 := hide (bc (unhide HB1) hb2)
      clear hb2
      cases hf : fstB ps bs n with
      | none =>
        have HANS := hide (unhide HGOOD (unhide HS) hf)
        have t0 : fstN none = 0 := rfl
        rw [t0]
        go_wp2_with fail
        exact bodyPost_ret (v := .tuple #[.slice (some ⟨g, 0, none⟩) (n + 1) cap, .int .i64 0, .int .i64 0]) (by simp [results, Try.results8, go_sem]) rfl ⟨⟨_, by rw [(unhide HANS).1], by rw [(unhide HANS).2, cns_len]; exact unhide HR2⟩, unhide HB2⟩
      | some i =>
        have HANS := hide (unhide HMEET (unhide HS) i hf)
        have t0 : fstN (some i) = (i : Int) := rfl
        rw [t0]
        have ip : 0 < i := by
          unfold fstB at hf
          have := List.find?_some hf
          unfold meetsB at this
          rcases Nat.eq_zero_or_pos i with rfl | h
          · cases this
          · exact h
        have t1 : decide ((0 : Int) < (i : Int)) = true := decide_eq_true (by omega)
        have t2 : (0 : Int) < (i : Int) := by omega
        clear hf
        go_wp2_with fail
        exact bodyPost_ret (v := .tuple #[.slice none 0 0, .int .i64 13, .int .i64 (i : Int)]) (by simp [results, Try.results8, go_sem]) rfl ⟨⟨_, by rw [(unhide HANS).1], by rw [(unhide HANS).2]; exact ⟨rfl, .inl ⟨rfl, rfl⟩⟩⟩, unhide HB2⟩
end Go.Proofs.Ytimkinpbimangaa
