/-
  The program's order of sizes.
-/
import Derived.Test.YtmoobfbjehgdnaaMtMath
namespace Go.Proofs.Ytmoobfbjehgdnaa
open Go.ChangeShapes Go.WideShapes Go.ChangeAt Go.RowKit Go.Shelf
set_option linter.unusedVariables false
set_option linter.unusedSimpArgs false

theorem enters77 : ∀ args w, (callFunc 44 args).run Try.prog w = .ok (.enter 44 args) w := enters_of Try.func44 (by kernel_rfl) rfl
set_option maxHeartbeats 1000000 in
theorem rankB_any (R p po n cu i j : Nat) (x y : Int) (w : World) (hi : i < n) (hj : j < n) (hr : w.cell? ⟨R, 0, none⟩ = some (.slice (some ⟨p, po, none⟩) n cu)) (hx : w.cell? ⟨p, po + i, none⟩ = some (.int .i64 x)) (hy : w.cell? ⟨p, po + j, none⟩ = some (.int .i64 y)) :
    Calls Try.prog 44 #[.int .i64 (i : Int), .int .i64 (j : Int), .pointer (some ⟨R, 0, none⟩)] w fun e w' => e = .returned (.int .i64 (cmpI x y)) ∧ Same w w' := by
  have HC := hide (fun W => cmpI_any x y W)
  have i1 : (i : Int) < (n : Int) := by omega
  have j1 : (j : Int) < (n : Int) := by omega
  have i0 : (0 : Int) ≤ (i : Int) := Int.natCast_nonneg _
  have j0 : (0 : Int) ≤ (j : Int) := Int.natCast_nonneg _
  generalize cmpI x y = z at *
  go_enter Try.func44, Try.ntmps44
  go_wp2_with fail
  go_region_held3 (fun wx => wx.cell? ⟨R, 0, none⟩ = some (.slice (some ⟨p, po, none⟩) n cu) ∧ wx.cell? ⟨p, po + i, none⟩ = some (.int .i64 x) ∧ wx.cell? ⟨p, po + j, none⟩ = some (.int .i64 y))
    (simp (maxDischargeDepth := 12) [go_sem, le1, lt1, *])
    (first
    | (go_at_call 45; refine (unhide HC _).mono ?_; rintro e w' ⟨rfl, rfl⟩))
  all_goals
    go_wp2_with fail
    go_ret
    exact ⟨rfl, ⟨rfl, rfl, rfl, rfl⟩⟩
theorem cmp_sizes (D R p po n cu : Nat) (S : List Int) (hS : S.length = n) (h1 : R ≠ D) (h2 : p ≠ D) :
    Cmp (.pointer (some ⟨R, 0, none⟩)) D (cmR (remS S)) (fun x => 0 ≤ x ∧ x < (n : Int)) (fun W => W.cell? ⟨R, 0, none⟩ = some (.slice (some ⟨p, po, none⟩) n cu) ∧ IntsAt W p po S) := by
  refine ⟨enters77, ?_, ?_⟩
  · rintro W W' ⟨ha, hb⟩ hw
    exact ⟨cell_but hw h1 ha, fun j x hj => cell_but hw h2 (hb j x hj)⟩
  · rintro W x y ⟨ha, hb⟩ hx hy
    obtain ⟨i, rfl⟩ := Int.eq_ofNat_of_zero_le hx.1
    obtain ⟨j, rfl⟩ := Int.eq_ofNat_of_zero_le hy.1
    have h := rankB_any R p po n cu i j (gt S i) (gt S j) W (by omega) (by omega) ha (hb _ _ (gtk_some (by omega))) (hb _ _ (gtk_some (by omega)))
    have e : cmR (remS S) (i : Int) (j : Int) = cmpI (gt S i) (gt S j) := by
      unfold cmR remS cmpI
      rw [Int.toNat_natCast, Int.toNat_natCast]
      by_cases h3 : gt S i < gt S j
      · rw [if_pos (by omega), if_pos h3]
      · rw [if_neg (by omega), if_neg h3]
        by_cases h4 : gt S j < gt S i
        · rw [if_pos (by omega), if_pos h4]
        · rw [if_neg (by omega), if_neg h4]
    rw [e]
    exact h
theorem iblk.setb {w : World} {g g' t o : Nat} {L : List Int} {v : Value} (h : iblk w g t L) (hg : g ≠ g') : iblk (w.setCell ⟨g', o, none⟩ v) g t L := (Below.heap_setCell _ _ _ _ hg).trans h

set_option maxHeartbeats 2000000 in
set_option maxRecDepth 100000 in
theorem numb_any (n : Nat) (w : World) (hn : n ≤ 200) :
    Calls Try.prog 42 #[.int .i64 (n : Int)] w fun e w' => (∃ g, e = .returned (.slice (some ⟨g, 0, none⟩) n n) ∧ w.heap.size ≤ g ∧ iblk w' g 3 (marks 0 n)) ∧ Below w.heap.size w w' := by
  have hmk := fun W => make_ints (P := Try.prog) 23 3 1 8 n Try.underlying23 (.int .i64 0) (by rfl) (by omega) int_info3 (by omega) (by omega) W
  rw [Nat.mul_one] at hmk
  have HML : Hid ((marks 0 n).length = n) := hide (marks_len 0 n)
  have n0 : (0 : Int) ≤ (n : Int) := Int.natCast_nonneg _
  generalize hZ : zeros n = Z at hmk
  have HZ := hide hZ
  clear hZ
  go_enter Try.func42, Try.ntmps42
  go_wp2_with fail
  have Z3 := hide (iblk_new w 3 Z)
  have Z5 := hide (ba (Below.refl w.heap.size w) (.cells (Z.map (Value.int .i64)).toArray 3))
  clear hmk
  generalize w.alloc (.cells (Z.map (Value.int .i64)).toArray 3) = WA at *
  obtain ⟨D, hD⟩ : ∃ R, w.heap.size = R := ⟨_, rfl⟩
  rw [hD] at Z3 Z5 ⊢
  have HD := hide hD
  clear hD
  go_loopw [9] (fun z W => ∃ i : Nat, z = .int .i64 (i : Int) ∧ i ≤ n ∧ iblk W D 3 ((marks 0 n).take i ++ zeros ((marks 0 n).length - i)) ∧ Below D w W) (fun z _ => n - (intOf z).toNat)
  case atStart =>
    refine ⟨0, rfl, Nat.zero_le _, ?_, unhide Z5⟩
    rw [unhide HML, List.take_zero, List.nil_append, Nat.sub_zero, unhide HZ]; exact unhide Z3
  case round =>
    obtain ⟨i, rfl, hi, hc, hw⟩ := hrel
    have HC := hide hc
    have HW := hide hw
    clear Z3 Z5
    by_cases h : i < n
    · have i1 : decide ((i : Int) < (n : Int)) = true := decide_eq_true (by omega)
      have i0 : (0 : Int) ≤ (i : Int) := Int.natCast_nonneg _
      have i2 : (i : Int) < (n : Int) := by omega
      have k0 : i + 0 < (marks 0 n).length := by rw [unhide HML]; omega
      have cc := hc.cell (fill_at (marks 0 n) i 0 k0)
      simp only [Nat.add_zero] at cc
      have fc : ∀ o, wr.frozen? ⟨D, o, none⟩ = false := hc.frozen
      have HSC := hide (fill_step (marks 0 n) i k0 _ (by have := marks_at 0 n i h; rw [Int.zero_add] at this; exact this))
      clear hc k0 hw
      go_wp2_with fail
      go_roundw
      case rel =>
        refine ⟨i + 1, by simp, h, ?_, ?_⟩
        · rw [← unhide HSC]; exact (unhide HC).set i _
        · exact Below.setCell (unhide HW) (Nat.le_refl _) _
      case measure => simp only [intOf]; omega
    · have i1 : decide ((i : Int) < (n : Int)) = false := decide_eq_false (by omega)
      have en : i = n := by omega
      subst en
      have ec : (marks 0 i).take i ++ zeros ((marks 0 i).length - i) = marks 0 i := by rw [List.take_of_length_le (by rw [unhide HML]; omega), unhide HML, Nat.sub_self]; simp [zeros]
      rw [ec] at hc
      have HC2 := hide hc
      clear hc hw ec HC
      go_wp2_with fail
      go_ret
      first | exact ⟨⟨D, rfl, Nat.le_refl _, unhide HC2⟩, unhide HW⟩ | exact ⟨⟨D, rfl, Nat.le_of_eq (unhide HD), unhide HC2⟩, by rw [unhide HD]; exact unhide HW⟩
set_option maxHeartbeats 2000000 in
set_option maxRecDepth 100000 in
theorem by_any (u : Option Addr) (p po n cu : Nat) (S : List Int) (w : World) (hl : S.length = n) (hn : n ≤ 200) (hu : Its w u p po S) :
    Calls Try.prog 35 #[.slice u n cu] w fun e w' => (∃ g, e = .returned (.slice (some ⟨g, 0, none⟩) n n) ∧ w.heap.size ≤ g ∧ iblk w' g 3 (ordL S n)) ∧ Below w.heap.size w w' := by
  have HNB := hide (fun W => numb_any n W hn)
  have HL := hide hl
  have HU := hide hu
  have HML : Hid ((marks 0 n).length = n) := hide (marks_len 0 n)
  have n0 : (0 : Int) ≤ (n : Int) := Int.natCast_nonneg _
  clear hl hu
  go_enter Try.func35, Try.ntmps35
  go_wp2_with fail
  have z4 : (w.alloc (.cells #[.slice u n cu] 23)).cell? ⟨w.heap.size, 0, none⟩ = some (.slice u n cu) := by simp [go_sem]
  have Z5 := hide (ba (Below.refl w.heap.size w) (.cells #[.slice u n cu] 23))
  refine (unhide HNB _).mono ?_
  rintro e WA ⟨⟨D, rfl, hD, hk⟩, hb⟩
  have hd := keep1 hb z4
  have hw := bc (unhide Z5) hb
  obtain ⟨R, hR⟩ : ∃ R, w.heap.size = R := ⟨_, rfl⟩
  have nRD : R ≠ D := by rw [← hR]; have := cell_lt z4; omega
  have gRD : R ≤ D := by rw [← hR]; have := cell_lt z4; omega
  rw [hR] at hd hw ⊢
  have HR := hide hR
  have HSF : Hid (Calls Try.prog 43 #[.slice (some ⟨D, 0, none⟩) n n, .func (.func 44) #[] #[.pointer (some ⟨R, 0, none⟩)]] WA fun e w' => e = .returned (.tuple #[]) ∧ (∃ M : List Int, M.Pairwise (ltR (remS S)) ∧ M.Perm (marks 0 n) ∧ iblk w' D 3 M) ∧ But D WA w') := hide (by
    by_cases h0 : n = 0
    · subst h0
      exact ssf_any D 0 (.pointer (some ⟨R, 0, none⟩)) (remS S) (fun _ => False) (fun _ => True) ⟨enters77, fun _ _ _ _ => trivial, fun _ _ _ _ hx _ => hx.elim⟩ (marks 0 0) WA (by omega) (unhide HML) (marks_lt 0) (fun x hx => by have := marks_mem.1 hx; omega) trivial hk
    · obtain ⟨rfl, hp, hI⟩ := (unhide HU) (fun e => h0 (by rw [← unhide HL, e]; rfl))
      have hR := unhide HR
      exact ssf_any D n (.pointer (some ⟨R, 0, none⟩)) (remS S) _ _ (cmp_sizes D R p po n cu S (unhide HL) nRD (by omega)) (marks 0 n) WA (by omega) (unhide HML) (marks_lt n) (fun x hx => marks_mem.1 hx) ⟨hd, hI.below hw (by omega)⟩ hk)
  have HW := hide hw
  clear hb hk hw hR hD z4 hd
  go_wp2_with fail
  refine (unhide HSF).mono ?_
  rintro e W2 ⟨rfl, ⟨M, sm, pm, hk3⟩, hbut⟩
  have hM : M = ordL S n := by
    have h1 := ordL_spec S n
    exact sorted_unique M _ sm h1.1 (pm.trans h1.2.symm)
  rw [hM] at hk3
  have HK3 := hide hk3
  have HW2 := hide ((unhide HW).trans (hbut.bel gRD))
  clear sm pm hk3 hbut HSF HW hM
  go_wp2_with fail
  go_ret
  refine ⟨⟨D, rfl, by have := unhide HR; omega, unhide HK3⟩, by rw [unhide HR]; exact unhide HW2⟩
end Go.Proofs.Ytmoobfbjehgdnaa
