/-
  What is wrong with a polygon, as the model finds it.
-/
import Derived.Test.YtegfghpaldnpeaaCrosses
import Derived.Test.YtegfghpaldnpeaaPoly
namespace Go.Proofs.Ytegfghpaldnpeaa
open Go.ChangeShapes Go.WideShapes Go.ChangeAt Go.RowKit
set_option linter.unusedVariables false
set_option linter.unusedSimpArgs false

theorem tup2 {a b c d : Int} (h : (c, d) = (a, b)) : Ending.returned (.tuple #[.int .i64 a, .int .i64 b]) = .returned (.tuple #[.int .i64 c, .int .i64 d]) := by
  cases h; rfl
theorem wrap_i {x : Int} (h1 : -9223372036854775808 ≤ x) (h2 : x ≤ 9223372036854775807) : IntKind.i64.wrap x = x := by
  simp only [IntKind.wrap, IntKind.bits, IntKind.signed]
  simp
  omega
theorem tmod_nat (i n : Nat) : ((i : Int) + 1).tmod (n : Int) = (((i + 1) % n : Nat) : Int) := by
  have : ((i : Int) + 1) = ((i + 1 : Nat) : Int) := by omega
  rw [this, Int.tmod_eq_emod_of_nonneg (by omega)]
  rfl

set_option maxRecDepth 100000 in
set_option maxHeartbeats 4000000 in
theorem polyM_main (x : Option Addr) (b off cap n : Nat) (L : List Pt) (w : World) (HN : Hid (L.length = n)) (hn : n ≤ 200)
    (HX : Hid (n ≠ 0 → x = some ⟨b, off, none⟩ ∧ b < w.heap.size ∧ PtsAt w b off L)) :
    Calls Try.prog 22 #[.slice x n cap] w fun e w' => e = .returned (.tuple #[.int .i64 (pcode L).1, .int .i64 (pcode L).2]) ∧ Below w.heap.size w w' := by
  have n0 : (0 : Int) ≤ (n : Int) := Int.natCast_nonneg _
  have t1 : decide ((4096 : Int) < (n : Int)) = false := decide_eq_false (by omega)
  have t2 : decide ((200 : Int) < (n : Int)) = false := decide_eq_false (by omega)
  go_enter Try.func22, Try.ntmps22
  go_wp2_with fail
  go_loopw [5] (fun s W => ∃ i : Nat, s = .int .i64 (i : Int) ∧ i ≤ n ∧ (∀ j, j < i → badI L j = false) ∧ Below w.heap.size w W) (fun s _ => n - (intOf s).toNat)
  case atStart => exact ⟨0, rfl, Nat.zero_le _, fun j hj => by omega, Below.refl _ _⟩
  case round =>
    obtain ⟨i, rfl, hi, ht, hw⟩ := hrel
    have HT := hide ht
    have HW := hide hw
    clear ht hw
    by_cases h : i < n
    · have i1 : (i : Int) < (n : Int) := by omega
      have i0 : (0 : Int) ≤ (i : Int) := Int.natCast_nonneg _
      have iz : decide ((i : Int) < (n : Int)) = true := decide_eq_true i1
      obtain ⟨rfl, bw, pa⟩ := unhide HX (by omega)
      obtain ⟨k0, k1⟩ := (pa.bel (unhide HW) bw) i _ (ptAt_some (L := L) (i := i) (by rw [unhide HN]; exact h))
      have HQ : Hid (badI L i = !ptOk (ptAt L i)) := hide rfl
      generalize ptAt L i = p at k0 k1 HQ
      clear pa bw
      obtain ⟨p1, p2⟩ := p
      dsimp only at k0 k1
      go_wp2_with fail
      refine (okM_ints _ _ _).mono ?_
      rintro e w' ⟨rfl, hb2⟩
      have HB := hide (bc (unhide HW) hb2)
      clear hb2
      cases hq : ptOk (p1, p2)
      · go_wp2_with fail
        refine bodyPost_ret (v := .tuple #[.int .i64 1, .int .i64 (i : Int)]) (by simp [results, Try.results22, go_sem]) rfl ⟨tup2 ?_, unhide HB⟩
        refine pc_bad (by rw [unhide HN]; omega) (firstI_some (unhide HT) (by rw [unhide HN]; exact h) ?_)
        rw [unhide HQ, hq]; rfl
      · go_wp2_with fail
        go_roundw
        case rel =>
          refine ⟨i + 1, by simp, h, fun j hj => ?_, unhide HB⟩
          rcases Nat.lt_succ_iff_lt_or_eq.1 hj with h1 | h1
          · exact unhide HT j h1
          · subst h1; rw [unhide HQ, hq]; rfl
        case measure => simp only [intOf]; omega
    · have i1 : ¬ (i : Int) < (n : Int) := by omega
      have iz : decide ((i : Int) < (n : Int)) = false := decide_eq_false i1
      have en : i = n := by omega
      have HBAD : Hid (firstI (badI L) L.length = none) := hide (firstI_none (by rw [unhide HN, ← en]; exact unhide HT))
      clear HT hi
      by_cases h3 : n < 3
      · have t3 : decide ((n : Int) < 3) = true := decide_eq_true (by omega)
        go_wp2_with fail
        refine bodyPost_ret (v := .tuple #[.int .i64 3, .int .i64 0]) (by simp [results, Try.results22, go_sem]) rfl ⟨tup2 ?_, unhide HW⟩
        exact pc_form (by rw [unhide HN]; omega) (unhide HBAD) (by rw [unhide HN]; exact h3)
      have HI := hide en
      clear en
      have t3 : decide ((n : Int) < 3) = false := decide_eq_false (by omega)
      go_wp2_with fail
      go_loopw [6] (fun s W => ∃ j : Nat, s = .int .i64 (j : Int) ∧ j ≤ n ∧ (∀ m, m < j → dupI L m = false) ∧ Below w.heap.size w W) (fun s _ => n - (intOf s).toNat)
      case atStart => exact ⟨0, rfl, Nat.zero_le _, fun j hj => by omega, unhide HW⟩
      case round =>
        clear HW
        obtain ⟨j, rfl, hj, ht, hw⟩ := hrel
        have HT := hide ht
        have HW := hide hw
        clear ht hw
        by_cases h : j < n
        · have j1 : (j : Int) < (n : Int) := by omega
          have j0 : (0 : Int) ≤ (j : Int) := Int.natCast_nonneg _
          have jz : decide ((j : Int) < (n : Int)) = true := decide_eq_true j1
          obtain ⟨rfl, bw, pa⟩ := unhide HX (by omega)
          have PA := hide pa
          have BW := hide bw
          clear pa bw
          go_wp2_with fail
          go_loopw [7] (fun s W => ∃ k : Nat, s = .int .i64 (k : Int) ∧ k ≤ j ∧ (∀ m, m < k → decide (ptAt L m = ptAt L j) = false) ∧ Below w.heap.size w W) (fun s _ => j - (intOf s).toNat)
          case atStart => exact ⟨0, rfl, Nat.zero_le _, fun j hj => by omega, unhide HW⟩
          case round =>
            clear HW
            obtain ⟨k, rfl, hk, hu, hw⟩ := hrel
            have HU := hide hu
            have HW := hide hw
            clear hu hw
            by_cases h' : k < j
            · have k1 : (k : Int) < (j : Int) := by omega
              have k2 : (k : Int) < (n : Int) := by omega
              have k0 : (0 : Int) ≤ (k : Int) := Int.natCast_nonneg _
              have kz : decide ((k : Int) < (j : Int)) = true := decide_eq_true k1
              obtain ⟨x0, x1⟩ := ((unhide PA).bel (unhide HW) (unhide BW)) k _ (ptAt_some (L := L) (i := k) (by rw [unhide HN]; omega))
              obtain ⟨y0, y1⟩ := ((unhide PA).bel (unhide HW) (unhide BW)) j _ (ptAt_some (L := L) (i := j) (by rw [unhide HN]; omega))
              obtain ⟨⟨p1, p2⟩, hp⟩ : ∃ p : Pt, ptAt L k = p := ⟨_, rfl⟩
              obtain ⟨⟨q1, q2⟩, hq⟩ : ∃ q : Pt, ptAt L j = q := ⟨_, rfl⟩
              rw [hp] at x0 x1
              rw [hq] at y0 y1
              have HPQ : Hid (decide (ptAt L k = ptAt L j) = decide ((p1, p2) = (q1, q2))) := hide (by rw [hp, hq])
              clear hp hq
              dsimp only at x0 x1 y0 y1
              by_cases he : p1 = q1 ∧ p2 = q2
              · obtain ⟨rfl, rfl⟩ := he
                go_wp2_with fail
                go_region_held3 (fun wx => wx.cell? ⟨b, off + k * 2, none⟩ = some (.int .i64 p1) ∧ wx.cell? ⟨b, off + k * 2 + 1, none⟩ = some (.int .i64 p2) ∧ wx.cell? ⟨b, off + j * 2, none⟩ = some (.int .i64 p1) ∧ wx.cell? ⟨b, off + j * 2 + 1, none⟩ = some (.int .i64 p2))
                  (simp (maxDischargeDepth := 12) [go_sem, le1, lt1, *])
                  (fail)
                all_goals
                  go_wp2_with fail
                  refine bodyPost_ret (v := .tuple #[.int .i64 7, .int .i64 (j : Int)]) (by simp [results, Try.results22, go_sem]) rfl ⟨tup2 ?_, by repeat (first | exact unhide HW | refine Below.drew ?_)⟩
                  refine pc_dup (by rw [unhide HN]; omega) (unhide HBAD) (by rw [unhide HN]; exact h3) (firstI_some (unhide HT) (by rw [unhide HN]; exact h) ?_)
                  exact any_range_true h' (by rw [unhide HPQ]; simp)
              · have hne : (p1 == q1) = false ∨ (p1 == q1) = true ∧ (p2 == q2) = false := pt_ne (f := (p1, p2)) (t := (q1, q2)) (fun h => he ⟨(Prod.mk.inj h).1, (Prod.mk.inj h).2⟩)
                have HE := hide he
                clear he
                rcases hne with e1 | ⟨e1, e2⟩
                all_goals
                  go_wp2_with fail
                  go_region_held3 (fun wx => wx.cell? ⟨b, off + k * 2, none⟩ = some (.int .i64 p1) ∧ wx.cell? ⟨b, off + k * 2 + 1, none⟩ = some (.int .i64 p2) ∧ wx.cell? ⟨b, off + j * 2, none⟩ = some (.int .i64 q1) ∧ wx.cell? ⟨b, off + j * 2 + 1, none⟩ = some (.int .i64 q2))
                    (simp (maxDischargeDepth := 12) [go_sem, le1, lt1, *])
                    (fail)
                  all_goals
                    go_wp2_with fail
                    go_roundw
                    case rel =>
                      refine ⟨k + 1, by simp, h', fun m hm => ?_, by repeat (first | exact unhide HW | refine Below.drew ?_)⟩
                      rcases Nat.lt_succ_iff_lt_or_eq.1 hm with h1 | h1
                      · exact unhide HU m h1
                      · subst h1; rw [unhide HPQ]; exact decide_eq_false (fun h => unhide HE ⟨(Prod.mk.inj h).1, (Prod.mk.inj h).2⟩)
                    case measure => simp only [intOf]; omega
            · have k1 : ¬ (k : Int) < (j : Int) := by omega
              have kz : decide ((k : Int) < (j : Int)) = false := decide_eq_false k1
              have en : k = j := by omega
              subst en
              go_wp2_with fail
              go_roundw
              case rel =>
                refine ⟨k + 1, by simp, h, fun m hm => ?_, unhide HW⟩
                rcases Nat.lt_succ_iff_lt_or_eq.1 hm with h1 | h1
                · exact unhide HT m h1
                · subst h1; exact any_range_false (unhide HU)
              case measure => simp only [intOf]; omega
        · have j1 : ¬ (j : Int) < (n : Int) := by omega
          have jz : decide ((j : Int) < (n : Int)) = false := decide_eq_false j1
          have en : j = n := by omega
          have HDUP : Hid (firstI (dupI L) L.length = none) := hide (firstI_none (by rw [unhide HN, ← en]; exact unhide HT))
          have HJ := hide en
          clear HT hj en
          go_wp2_with fail
          go_loopw [8] (fun s W => ∃ a : Nat, s = .int .i64 (a : Int) ∧ a ≤ n ∧ (∀ m, m < a → wrongI L m = false) ∧ Below w.heap.size w W) (fun s _ => n - (intOf s).toNat)
          case atStart => exact ⟨0, rfl, Nat.zero_le _, fun j hj => by omega, unhide HW⟩
          case round =>
            clear HW
            obtain ⟨a, rfl, ha, ht, hw⟩ := hrel
            have HT := hide ht
            have HW := hide hw
            clear ht hw
            by_cases h : a < n
            · have a1 : (a : Int) < (n : Int) := by omega
              have a0 : (0 : Int) ≤ (a : Int) := Int.natCast_nonneg _
              have az : decide ((a : Int) < (n : Int)) = true := decide_eq_true a1
              have nz : ((n : Int) == 0) = false := by rw [beq_eq_false_iff_ne]; omega
              have ny : (n : Int) ≠ 0 := by omega
              have nw : ¬ n = 0 := by omega
              have nx : ((n : Int) == -1) = false := by rw [beq_eq_false_iff_ne]; omega
              obtain ⟨rfl, bw, pa⟩ := unhide HX (by omega)
              have PA := hide pa
              have BW := hide bw
              clear pa bw
              have ma1' : (a + 1) % n < n := Nat.mod_lt _ (by omega)
              obtain ⟨ma, hma⟩ : ∃ m : Nat, (a + 1) % n = m := ⟨_, rfl⟩
              have ea : ((a : Int) + 1).tmod (n : Int) = (ma : Int) := by rw [tmod_nat, hma]
              have ea2 : ((a : Int) + 1) % (n : Int) = (ma : Int) := by rw [← hma]; rfl
              have ma0 : (0 : Int) ≤ (ma : Int) := Int.natCast_nonneg _
              have ma1 : (ma : Int) < (n : Int) := by omega
              have ma2 : ma < n := by omega
              have wa : IntKind.i64.wrap ((a : Int) + 1) = (a : Int) + 1 := wrap_i (by omega) (by omega)
              have HMA := hide hma
              clear hma ma1'
              go_wp2_with fail
              go_loopw [9] (fun s W => ∃ k : Nat, s = .int .i64 (k : Int) ∧ k ≤ n ∧ (∀ m, m < k → wrongK L a m = false) ∧ Below w.heap.size w W) (fun s _ => n - (intOf s).toNat)
              case atStart => exact ⟨0, rfl, Nat.zero_le _, fun j hj => by omega, unhide HW⟩
              case round =>
                clear HW
                obtain ⟨k, rfl, hk, hu, hw⟩ := hrel
                have HU := hide hu
                have HW := hide hw
                clear hu hw
                by_cases h' : k < n
                · have k1 : (k : Int) < (n : Int) := by omega
                  have k0 : (0 : Int) ≤ (k : Int) := Int.natCast_nonneg _
                  have kz : decide ((k : Int) < (n : Int)) = true := decide_eq_true k1
                  by_cases hka : k = a
                  · have kq : ((k : Int) == (a : Int)) = true := by simp [hka]
                    have HKA := hide hka
                    clear hka
                    go_wp2_with fail
                    go_roundw
                    case rel =>
                      refine ⟨k + 1, by simp, h', fun m hm => ?_, unhide HW⟩
                      rcases Nat.lt_succ_iff_lt_or_eq.1 hm with h1 | h1
                      · exact unhide HU m h1
                      · subst h1; unfold wrongK; simp [unhide HKA]
                    case measure => simp only [intOf]; omega
                  · have kq : ((k : Int) == (a : Int)) = false := by rw [beq_eq_false_iff_ne]; omega
                    have HKA := hide hka
                    clear hka
                    have mk1' : (k + 1) % n < n := Nat.mod_lt _ (by omega)
                    obtain ⟨mk, hmk⟩ : ∃ m : Nat, (k + 1) % n = m := ⟨_, rfl⟩
                    have ek : ((k : Int) + 1).tmod (n : Int) = (mk : Int) := by rw [tmod_nat, hmk]
                    have ek2 : ((k : Int) + 1) % (n : Int) = (mk : Int) := by rw [← hmk]; rfl
                    have mk0 : (0 : Int) ≤ (mk : Int) := Int.natCast_nonneg _
                    have mk1 : (mk : Int) < (n : Int) := by omega
                    have mk2 : mk < n := by omega
                    have wk : IntKind.i64.wrap ((k : Int) + 1) = (k : Int) + 1 := wrap_i (by omega) (by omega)
                    have HMK := hide hmk
                    clear hmk mk1'
                    have PW := hide ((unhide PA).bel (unhide HW) (unhide BW))
                    have okp : ∀ t, t < n → ptOk (ptAt L t) = true := fun t ht => by
                      have := firstI_none_iff (unhide HBAD) t (by rw [unhide HN]; exact ht)
                      unfold badI at this
                      simpa using this
                    obtain ⟨x0, x1⟩ := unhide PW a _ (ptAt_some (L := L) (i := a) (by rw [unhide HN]; omega))
                    obtain ⟨x2, x3⟩ := unhide PW ma _ (ptAt_some (L := L) (i := ma) (by rw [unhide HN]; omega))
                    obtain ⟨x4, x5⟩ := unhide PW k _ (ptAt_some (L := L) (i := k) (by rw [unhide HN]; omega))
                    obtain ⟨x6, x7⟩ := unhide PW mk _ (ptAt_some (L := L) (i := mk) (by rw [unhide HN]; omega))
                    have hc := fun W => crossM_any (ptAt L a) (ptAt L ma) (ptAt L k) (ptAt L mk) W (okp a (by omega)) (okp ma (by omega)) (okp k (by omega)) (okp mk (by omega))
                    have hcn : crossN L a k = (cross (ptAt L a) (ptAt L ma) (ptAt L k) (ptAt L mk)).length := by
                      unfold crossN; rw [unhide HN, unhide HMA, unhide HMK]
                    clear okp PW
                    obtain ⟨CL, hcl⟩ : ∃ CL, cross (ptAt L a) (ptAt L ma) (ptAt L k) (ptAt L mk) = CL := ⟨_, rfl⟩
                    rw [hcl] at hc hcn
                    clear hcl
                    obtain ⟨⟨p1, p2⟩, hp⟩ : ∃ p : Pt, ptAt L a = p := ⟨_, rfl⟩
                    obtain ⟨⟨q1, q2⟩, hq⟩ : ∃ q : Pt, ptAt L ma = q := ⟨_, rfl⟩
                    obtain ⟨⟨r1, r2⟩, hr⟩ : ∃ q : Pt, ptAt L k = q := ⟨_, rfl⟩
                    obtain ⟨⟨s1, s2⟩, hs⟩ : ∃ q : Pt, ptAt L mk = q := ⟨_, rfl⟩
                    rw [hp] at x0 x1
                    rw [hq] at x2 x3
                    rw [hr] at x4 x5
                    rw [hs] at x6 x7
                    rw [hp, hq, hr, hs] at hc
                    have HC := hide hc
                    have HCN := hide hcn
                    clear hp hq hr hs hc hcn
                    dsimp only [ptv] at x0 x1 x2 x3 x4 x5 x6 x7 HC
                    go_wp2_with fail
                    go_region_held3 (fun wx => wx.cell? ⟨b, off + a * 2, none⟩ = some (.int .i64 p1) ∧ wx.cell? ⟨b, off + a * 2 + 1, none⟩ = some (.int .i64 p2) ∧ wx.cell? ⟨b, off + ma * 2, none⟩ = some (.int .i64 q1) ∧ wx.cell? ⟨b, off + ma * 2 + 1, none⟩ = some (.int .i64 q2) ∧ wx.cell? ⟨b, off + k * 2, none⟩ = some (.int .i64 r1) ∧ wx.cell? ⟨b, off + k * 2 + 1, none⟩ = some (.int .i64 r2) ∧ wx.cell? ⟨b, off + mk * 2, none⟩ = some (.int .i64 s1) ∧ wx.cell? ⟨b, off + mk * 2 + 1, none⟩ = some (.int .i64 s2))
                      (simp (maxDischargeDepth := 12) [go_sem, le1, lt1, *])
                      (first
                      | (go_at_call 35; refine (unhide HC _).mono ?_; rintro e w' ⟨⟨v, rfl, hv⟩, hb⟩; obtain ⟨u', k', cap', rfl, h8, h9⟩ := hv.out; have HB := hide hb; have t0 := keep1 hb (b := b) (o := _) (v := .int .i64 p1) x0; have t1 := keep1 hb (b := b) (o := _) (v := .int .i64 p2) x1; have t2 := keep1 hb (b := b) (o := _) (v := .int .i64 q1) x2; have t3 := keep1 hb (b := b) (o := _) (v := .int .i64 q2) x3; have t4 := keep1 hb (b := b) (o := _) (v := .int .i64 r1) x4; have t5 := keep1 hb (b := b) (o := _) (v := .int .i64 r2) x5; have t6 := keep1 hb (b := b) (o := _) (v := .int .i64 s1) x6; have t7 := keep1 hb (b := b) (o := _) (v := .int .i64 s2) x7; clear hb hv h8 h9))
                    all_goals
                      have HB2 := hide (show Below w.heap.size w _ from bc (by repeat (first | exact unhide HW | refine Below.drew ?_)) (unhide HB))
                      generalize CL.length = N at *
                      have HM : Hid (((k : Int) == (ma : Int)) = true ∧ mostK n a k = 1 ∨ ((k : Int) == (ma : Int)) = false ∧ ((a : Int) == (mk : Int)) = true ∧ mostK n a k = 1 ∨ ((k : Int) == (ma : Int)) = false ∧ ((a : Int) == (mk : Int)) = false ∧ mostK n a k = 0) := by
                        unfold mostK
                        rw [unhide HMA, unhide HMK]
                        by_cases g1 : k = ma
                        · exact .inl ⟨by simp [g1], by simp [g1]⟩
                        · by_cases g2 : a = mk
                          · exact .inr (.inl ⟨by simp; omega, by simp [g2], by simp [g2]⟩)
                          · exact .inr (.inr ⟨by simp; omega, by simp; omega, by simp [g1, g2]⟩)
                      rcases unhide HM with ⟨g1, g3⟩ | ⟨g1, g2, g3⟩ | ⟨g1, g2, g3⟩
                      all_goals
                        have HG := hide g3
                        clear g3 HM
                      · by_cases hgt : 1 < N
                        · have gz : decide ((1 : Int) < (N : Int)) = true := decide_eq_true (by omega)
                          have HGT := hide hgt
                          clear hgt
                          go_wp2_with fail
                          refine bodyPost_ret (v := .tuple #[.int .i64 13, .int .i64 (a : Int)]) (by simp [results, Try.results22, go_sem]) rfl ⟨tup2 ?_, unhide HB2⟩
                          refine pc_wrong (by rw [unhide HN]; omega) (unhide HBAD) (by rw [unhide HN]; exact h3) (unhide HDUP) (firstI_some (unhide HT) (by rw [unhide HN]; exact h) ?_)
                          refine any_range_true (k := k) (by rw [unhide HN]; exact h') ?_
                          unfold wrongK
                          rw [unhide HCN, unhide HN, unhide HG]
                          simp [unhide HKA, unhide HGT]
                        · have gz : decide ((1 : Int) < (N : Int)) = false := decide_eq_false (by omega)
                          have HGT := hide hgt
                          clear hgt
                          go_wp2_with fail
                          go_roundw
                          case rel =>
                            refine ⟨k + 1, by simp, h', fun m hm => ?_, unhide HB2⟩
                            rcases Nat.lt_succ_iff_lt_or_eq.1 hm with h1 | h1
                            · exact unhide HU m h1
                            · subst h1
                              unfold wrongK
                              rw [unhide HCN, unhide HN, unhide HG]
                              simp
                              have := unhide HGT
                              omega
                          case measure => simp only [intOf]; omega
                      · by_cases hgt : 1 < N
                        · have gz : decide ((1 : Int) < (N : Int)) = true := decide_eq_true (by omega)
                          have HGT := hide hgt
                          clear hgt
                          go_wp2_with fail
                          refine bodyPost_ret (v := .tuple #[.int .i64 13, .int .i64 (a : Int)]) (by simp [results, Try.results22, go_sem]) rfl ⟨tup2 ?_, unhide HB2⟩
                          refine pc_wrong (by rw [unhide HN]; omega) (unhide HBAD) (by rw [unhide HN]; exact h3) (unhide HDUP) (firstI_some (unhide HT) (by rw [unhide HN]; exact h) ?_)
                          refine any_range_true (k := k) (by rw [unhide HN]; exact h') ?_
                          unfold wrongK
                          rw [unhide HCN, unhide HN, unhide HG]
                          simp [unhide HKA, unhide HGT]
                        · have gz : decide ((1 : Int) < (N : Int)) = false := decide_eq_false (by omega)
                          have HGT := hide hgt
                          clear hgt
                          go_wp2_with fail
                          go_roundw
                          case rel =>
                            refine ⟨k + 1, by simp, h', fun m hm => ?_, unhide HB2⟩
                            rcases Nat.lt_succ_iff_lt_or_eq.1 hm with h1 | h1
                            · exact unhide HU m h1
                            · subst h1
                              unfold wrongK
                              rw [unhide HCN, unhide HN, unhide HG]
                              simp
                              have := unhide HGT
                              omega
                          case measure => simp only [intOf]; omega
                      · by_cases hgt : 0 < N
                        · have gz : decide ((0 : Int) < (N : Int)) = true := decide_eq_true (by omega)
                          have HGT := hide hgt
                          clear hgt
                          go_wp2_with fail
                          refine bodyPost_ret (v := .tuple #[.int .i64 13, .int .i64 (a : Int)]) (by simp [results, Try.results22, go_sem]) rfl ⟨tup2 ?_, unhide HB2⟩
                          refine pc_wrong (by rw [unhide HN]; omega) (unhide HBAD) (by rw [unhide HN]; exact h3) (unhide HDUP) (firstI_some (unhide HT) (by rw [unhide HN]; exact h) ?_)
                          refine any_range_true (k := k) (by rw [unhide HN]; exact h') ?_
                          unfold wrongK
                          rw [unhide HCN, unhide HN, unhide HG]
                          simp [unhide HKA, unhide HGT]
                        · have gz : decide ((0 : Int) < (N : Int)) = false := decide_eq_false (by omega)
                          have HGT := hide hgt
                          clear hgt
                          go_wp2_with fail
                          go_roundw
                          case rel =>
                            refine ⟨k + 1, by simp, h', fun m hm => ?_, unhide HB2⟩
                            rcases Nat.lt_succ_iff_lt_or_eq.1 hm with h1 | h1
                            · exact unhide HU m h1
                            · subst h1
                              unfold wrongK
                              rw [unhide HCN, unhide HN, unhide HG]
                              simp
                              have := unhide HGT
                              omega
                          case measure => simp only [intOf]; omega
                · have k1 : ¬ (k : Int) < (n : Int) := by omega
                  have kz : decide ((k : Int) < (n : Int)) = false := decide_eq_false k1
                  have en : k = n := by omega
                  have HE := hide en
                  clear en
                  go_wp2_with fail
                  go_roundw
                  case rel =>
                    refine ⟨a + 1, by simp, h, fun m hm => ?_, unhide HW⟩
                    rcases Nat.lt_succ_iff_lt_or_eq.1 hm with h1 | h1
                    · exact unhide HT m h1
                    · subst h1; exact any_range_false (by rw [unhide HN, ← unhide HE]; exact unhide HU)
                  case measure => simp only [intOf]; omega
            · have a1 : ¬ (a : Int) < (n : Int) := by omega
              have az : decide ((a : Int) < (n : Int)) = false := decide_eq_false a1
              have en : a = n := by omega
              have HE := hide en
              clear en
              go_wp2_with fail
              refine bodyPost_ret (v := .tuple #[.int .i64 0, .int .i64 0]) (by simp [results, Try.results22, go_sem]) rfl ⟨tup2 ?_, unhide HW⟩
              exact pc_ok (by rw [unhide HN]; omega) (unhide HBAD) (by rw [unhide HN]; exact h3) (unhide HDUP) (firstI_none (by rw [unhide HN, ← unhide HE]; exact unhide HT))
theorem polyM_any (x : Option Addr) (b off cap n : Nat) (L : List Pt) (w : World) (HN : Hid (L.length = n)) (hn : n ≤ 4611686018427387904)
    (HX : Hid (n ≠ 0 → x = some ⟨b, off, none⟩ ∧ b < w.heap.size ∧ PtsAt w b off L)) :
    Calls Try.prog 22 #[.slice x n cap] w fun e w' => e = .returned (.tuple #[.int .i64 (pcode L).1, .int .i64 (pcode L).2]) ∧ Below w.heap.size w w' := by
  by_cases h1 : 4096 < n
  · have t1 : decide ((4096 : Int) < (n : Int)) = true := decide_eq_true (by omega)
    go_enter Try.func22, Try.ntmps22
    go_wp2_with fail
    exact bodyPost_ret (v := .tuple #[.int .i64 2, .int .i64 0]) (by simp [results, Try.results22, go_sem]) rfl ⟨tup2 (pc_long (by rw [unhide HN]; exact h1)), Below.refl _ _⟩
  by_cases h2 : 200 < n
  · have t1 : decide ((4096 : Int) < (n : Int)) = false := decide_eq_false (by omega)
    have t2 : decide ((200 : Int) < (n : Int)) = true := decide_eq_true (by omega)
    go_enter Try.func22, Try.ntmps22
    go_wp2_with fail
    exact bodyPost_ret (v := .tuple #[.int .i64 10, .int .i64 0]) (by simp [results, Try.results22, go_sem]) rfl ⟨tup2 (pc_many (by rw [unhide HN]; exact h1) (by rw [unhide HN]; exact h2)), Below.refl _ _⟩
  exact polyM_main x b off cap n L w HN (by omega) HX
end Go.Proofs.Ytegfghpaldnpeaa
