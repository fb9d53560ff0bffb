/-
  The statement of the program's search through all orders that draws its order.
-/
import Derived.Test.YtoidhlackoigkaaNbMath
import Derived.Test.YtoidhlackoigkaaInv2
import Derived.Test.YtoidhlackoigkaaWi23
import Derived.Test.YtoidhlackoigkaaApF
import Derived.Test.YtoidhlackoigkaaLy47
namespace Go.Proofs.Ytoidhlackoigkaa
open Go.ChangeShapes Go.WideShapes Go.ChangeAt Go.RowKit
set_option linter.unusedVariables false
set_option linter.unusedSimpArgs false

theorem clipI_any (u : Option Addr) (n c : Nat) (w : World) (hc : n ≤ c) (hn : n ≤ 100000) (hu0 : u = none → c = 0) : Calls Try.prog 50 #[.slice u n c] w fun e w' => e = .returned (.slice u n n) ∧ w' = w := by
  have n0 : (0 : Int) ≤ (n : Int) := Int.natCast_nonneg _
  have nc : (n : Int) ≤ (c : Int) := by omega
  cases u with
  | none =>
    have := hu0 rfl
    subst this
    obtain rfl : n = 0 := by omega
    go_enter Try.func50, Try.ntmps50
    go_wp2
    go_ret
    exact ⟨rfl, rfl⟩
  | some ad =>
    obtain ⟨g, o, sp⟩ := ad
    go_enter Try.func50, Try.ntmps50
    go_wp2
    go_ret
    exact ⟨rfl, rfl⟩
set_option maxHeartbeats 1000000 in
theorem ixI_any (u : Option Addr) (p po n c : Nat) (L : List Int) (v : Int) (w : World) (hl : L.length = n) (hn : n ≤ 9223372036854775807) (hu : Its w u p po L) :
    Calls Try.prog 60 #[.slice u n c, .int .i64 v] w fun e w' => (∃ r : Int, e = .returned (.int .i64 r) ∧ decide (0 ≤ r) = L.contains v) ∧ w' = w := by
  have HU := hide hu
  have HL := hide hl
  have n0 : (0 : Int) ≤ (n : Int) := Int.natCast_nonneg _
  clear hu hl
  go_enter Try.func60, Try.ntmps60
  go_wp2_with fail
  go_loopw [5, 8] (fun _ s W => ∃ i : Nat, s = .int .i64 (i : Int) ∧ i ≤ n ∧ (L.take i).contains v = false ∧ W = w) (fun _ s _ => n - (intOf s).toNat)
  case atStart => exact ⟨0, rfl, Nat.zero_le _, by simp, rfl⟩
  case round =>
    obtain ⟨i, rfl, hi, ha, rfl⟩ := hrel
    have HA := hide ha
    clear ha
    by_cases h : i < n
    · have i1 : (i : Int) < (n : Int) := by omega
      have i0 : (0 : Int) ≤ (i : Int) := Int.natCast_nonneg _
      have iz : decide ((i : Int) < (n : Int)) = true := decide_eq_true i1
      obtain ⟨x, hx⟩ := get_some (unhide HL) h
      obtain ⟨rfl, pw, k0⟩ := (unhide HU).at hx
      have HX := hide hx
      clear pw hx
      cases hto : (v == x) with
      | true =>
        have HC : Hid (L.contains v = true) := hide (by have e : v = x := by simpa using hto
                                                        subst e; simp; exact List.mem_of_getElem? (unhide HX))
        go_wp2_with fail
        go_ret
        refine ⟨⟨_, rfl, ?_⟩, rfl⟩
        rw [unhide HC]
        simp
      | false =>
        have HC : Hid ((L.take (i + 1)).contains v = false) := hide (by
          rw [List.take_add_one, unhide HX]
          have h1 := unhide HA
          have h2 : ¬ v = x := by simpa using hto
          simp at h1 ⊢
          exact ⟨h1, h2⟩)
        go_wp2_with fail
        go_roundw
        case rel => first | exact ⟨i + 1, by simp, h, unhide HC, by first | rfl | trivial⟩ | ((repeat apply Exists.intro); refine ⟨?_, rfl⟩; exact ⟨i + 1, by simp, h, unhide HC, by first | rfl | trivial⟩)
        case measure => first | (simp only [intOf]; omega) | (simp [intOf]; omega)
    · have iz : decide ((i : Int) < (n : Int)) = false := decide_eq_false (by omega)
      have HE : Hid (L.contains v = false) := hide (by have := unhide HA; rwa [List.take_of_length_le (by rw [unhide HL]; omega)] at this)
      go_wp2_with fail
      go_ret
      refine ⟨⟨_, rfl, ?_⟩, rfl⟩
      rw [unhide HE]
      rfl
theorem ctI_any (u : Option Addr) (p po n c : Nat) (L : List Int) (v : Int) (w : World) (hl : L.length = n) (hn : n ≤ 9223372036854775807) (hu : Its w u p po L) :
    Calls Try.prog 49 #[.slice u n c, .int .i64 v] w fun e w' => e = .returned (.bool (L.contains v)) ∧ w' = w := by
  have H := hide (ixI_any u p po n c L v w hl hn hu)
  clear hl hu
  go_enter Try.func49, Try.ntmps49
  go_wp2_with fail
  refine (unhide H).mono ?_
  rintro e w' ⟨⟨r, rfl, hr⟩, rfl⟩
  have HR := hide hr
  clear hr
  go_wp2_with fail
  go_ret
  exact ⟨by rw [← unhide HR]; rfl, rfl⟩
/-- a row of numbers that was just made -/
structure NewI (V W : World) (g n cap : Nat) (L : List Int) : Prop where
  lt : g < W.heap.size
  ge : V.heap.size ≤ g
  ca : n + 1 ≤ cap
  cl : IntsAt W g 0 L
theorem Its.olds {w : World} {u : Option Addr} {b po n : Nat} {L : List Int} (h : Its w u b po L) (hl : L.length = n) : n ≠ 0 → ∃ ad, u = some ad ∧ ∀ j v, (L.map (Value.int .i64))[j]? = some v → w.cell? (ad.add j) = some v := by
  intro hn
  obtain ⟨h1, h2, h3⟩ := h (by intro e; subst e; exact hn hl.symm)
  refine ⟨⟨b, po, none⟩, h1, fun j v hj => ?_⟩
  rw [List.getElem?_map] at hj
  cases hx : L[j]? with
  | none => rw [hx] at hj; cases hj
  | some z =>
    rw [hx] at hj
    simp at hj
    subst hj
    rw [add_none]
    exact h3 j z hx
set_option maxHeartbeats 4000000 in
set_option maxRecDepth 100000 in
theorem or6 {s1 s2 s3 s5 s7 s8 s9 s10 s11 s12 s13 s14 s15 s16 s17 s18 s19 s20 s21 s22 s23 s24 s25 s26 s27 s28 s29 s30 s31 s32 s33 : Value} {g2 g3 g6 g7 i m c ob oo : Nat} {u : Option Addr} {L : List Int} {Z : World → Prop} {V : World} {K_ : Act → World → Prop}
    (HF : Hid (V.cell? ⟨g7, 0, none⟩ = some (.func (.func 48) #[] #[.pointer (some ⟨g3, 0, none⟩), .pointer (some ⟨g6, 0, none⟩), .pointer (some ⟨g2, 0, none⟩), .pointer (some ⟨g7, 0, none⟩)]))) (HL : Hid (L.length = m)) (HU : Hid (Its V u ob oo L)) (hc : m ≤ c) (hn : m ≤ 100000) (hu0 : u = none → c = 0) (hu1 : m = 0 → u = none)
    (HREC : Hid (∀ X gn cn, Below V.heap.size V X → NewI V X gn m cn (L ++ [(i : Int)]) → Calls Try.prog 48 #[.slice (some ⟨gn, 0, none⟩) (m + 1) cn, .pointer (some ⟨g3, 0, none⟩), .pointer (some ⟨g6, 0, none⟩), .pointer (some ⟨g2, 0, none⟩), .pointer (some ⟨g7, 0, none⟩)] X fun e w' => e = .returned (.tuple #[]) ∧ Z w'))
    (hQ : ∀ (n4 gn cn : Nat) (W9 : World), Z W9 → K_ { tmps := #[.slice u m c, s1, s2, s3, .pointer (some ⟨g7, 0, none⟩), s5, .int .i64 (i : Int), s7, s8, s9, s10, s11, s12, s13, s14, s15, s16, s17, s18, s19, s20, s21, s22, s23, s24, s25, .func (.func 48) #[] #[.pointer (some ⟨g3, 0, none⟩), .pointer (some ⟨g6, 0, none⟩), .pointer (some ⟨g2, 0, none⟩), .pointer (some ⟨g7, 0, none⟩)], .slice u m c, .slice u m m, .int .i64 (i : Int), .slice (some ⟨n4, 0, none⟩) 1 1, .slice (some ⟨gn, 0, none⟩) (m + 1) cn, .tuple #[], s33], defers := [] } W9) :
    Go.Code.wp Try.prog (rg48 6) (Only K_) { tmps := #[.slice u m c, s1, s2, s3, .pointer (some ⟨g7, 0, none⟩), s5, .int .i64 (i : Int), s7, s8, s9, s10, s11, s12, s13, s14, s15, s16, s17, s18, s19, s20, s21, s22, s23, s24, s25, s26, s27, s28, s29, s30, s31, s32, s33], defers := [] } V := by
  have HQ := hide hQ
  clear hQ
  obtain ⟨iP, hi1, hy0, hy1, hy2⟩ := info_parts int_info3
  conv => arg 2; whnf
  refine wp_region_inv2 (fun Lb A W => ∃ (u0 u1 u2 u3 u4 u5 u6 : Bool) (n4 : Nat) (gn : Nat) (cn : Nat), Lb = #[u0, u1, u2, u3, u4, u5, u6] ∧ A = ({ tmps := #[.slice u m c, s1, s2, s3, .pointer (some ⟨g7, 0, none⟩), s5, .int .i64 (i : Int), s7, s8, s9, s10, s11, s12, s13, s14, s15, s16, s17, s18, s19, s20, s21, s22, s23, s24, s25, (bif u0 then .func (.func 48) #[] #[.pointer (some ⟨g3, 0, none⟩), .pointer (some ⟨g6, 0, none⟩), .pointer (some ⟨g2, 0, none⟩), .pointer (some ⟨g7, 0, none⟩)] else s26), (bif u1 then .slice u m c else s27), (bif u2 then .slice u m m else s28), (bif u3 then .int .i64 (i : Int) else s29), (bif u4 then .slice (some ⟨n4, 0, none⟩) 1 1 else s30), (bif u5 then .slice (some ⟨gn, 0, none⟩) (m + 1) cn else s31), (bif u6 then .tuple #[] else s32), s33], defers := [] } : Act) ∧ (u6 = false → Below V.heap.size V W) ∧ (u4 = true → u5 = false → vb W n4 3 [.int .i64 (i : Int)]) ∧ (u5 = true → u6 = false → NewI V W gn m cn (L ++ [(i : Int)])) ∧ (u6 = true → Z W) ∧ (u2 = true → u1 = true) ∧ (u4 = true → u3 = true) ∧ (u5 = true → u2 = true ∧ u4 = true) ∧ (u6 = true → u0 = true ∧ u1 = true ∧ u2 = true ∧ u3 = true ∧ u4 = true ∧ u5 = true)) (by kernel_rfl) (by kernel_rfl) ?h0 ?hstep ?hend
  case h0 =>
    exact ⟨false, false, false, false, false, false, false, 0, 0, 0, rfl, rfl, (fun _ => Below.drew (Below.refl _ _)), zf, zf, zf, zf, zf, zf, zf⟩
  case hstep =>
    intro Lb A W hI
    obtain ⟨u0, u1, u2, u3, u4, hI⟩ := hI
    obtain ⟨u5, u6, n4, gn, cn, hI⟩ := hI
    obtain ⟨hLb, hI⟩ := hI
    obtain ⟨hA, hI⟩ := hI
    obtain ⟨kB, hI⟩ := hI
    obtain ⟨k4, hI⟩ := hI
    obtain ⟨k5, hI⟩ := hI
    obtain ⟨kZ, hI⟩ := hI
    obtain ⟨l2, hI⟩ := hI
    obtain ⟨l4, hI⟩ := hI
    obtain ⟨l5, hI⟩ := hI
    have kF := hI
    clear hI
    subst hLb
    subst hA
    replace kB := hide kB
    replace k4 := hide k4
    replace k5 := hide k5
    replace kZ := hide kZ
    replace l2 := hide l2
    replace l4 := hide l4
    replace l5 := hide l5
    replace kF := hide kF
    refine ⟨?_, ?_, ?_, ?_, ?_, ?_, ?_, trivial⟩
    · intro h0 hd K hK
      have z : u0 = false := h0
      have z6_ : u6 = false := znb fun hu => z.symm.trans ((zu kF hu).1)
      subst z6_
      subst z
      clear h0 hd
      rw [if_pos (by rfl)]
      have c0 := keep1 (zu kB rfl) (unhide HF)
      go_simp
      exact unhide hK _ _ ⟨true, u1, u2, u3, u4, u5, false, n4, gn, cn, rfl, rfl, zu kB, zu k4, zu k5, zf, zu l2, zu l4, zu l5, zf⟩
    · intro h0 hd K hK
      have z : u1 = false := h0
      have z6_ : u6 = false := znb fun hu => z.symm.trans ((zu kF hu).2.1)
      have z5_ : u5 = false := znb fun hu => z.symm.trans ((zu l2 (zu l5 hu).1))
      subst z6_
      subst z5_
      subst z
      clear h0 hd
      rw [if_pos (by rfl)]
      go_simp
      exact unhide hK _ _ ⟨u0, true, u2, u3, u4, false, false, n4, gn, cn, rfl, rfl, zu kB, zu k4, zf, zf, (fun h => rfl), zu l4, zf, zf⟩
    · intro h0 hd K hK
      have z : u2 = false := h0
      have z6_ : u6 = false := znb fun hu => z.symm.trans ((zu kF hu).2.2.1)
      have z5_ : u5 = false := znb fun hu => z.symm.trans ((zu l5 hu).1)
      have zd : u1 = true := by
        simp [Region.binds] at hd
        simp [hd]
      obtain ⟨rfl⟩ := zd
      subst z6_
      subst z5_
      subst z
      clear h0 hd
      rw [if_pos (by rfl)]
      go_simp
      refine (clipI_any u m c W hc hn hu0).mono ?_
      rintro e w8 ⟨rfl, rfl⟩
      exact unhide hK _ _ ⟨u0, true, true, u3, u4, false, false, n4, gn, cn, rfl, rfl, zu kB, zu k4, zf, zf, (fun _ => rfl), zu l4, zf, zf⟩
    · intro h0 hd K hK
      have z : u3 = false := h0
      have z6_ : u6 = false := znb fun hu => z.symm.trans ((zu kF hu).2.2.2.1)
      have z5_ : u5 = false := znb fun hu => z.symm.trans ((zu l4 (zu l5 hu).2))
      subst z6_
      subst z5_
      subst z
      clear h0 hd
      rw [if_pos (by rfl)]
      go_simp
      exact unhide hK _ _ ⟨u0, u1, u2, true, u4, false, false, n4, gn, cn, rfl, rfl, zu kB, zu k4, zf, zf, zu l2, (fun h => rfl), zf, zf⟩
    · intro h0 hd K hK
      have z : u4 = false := h0
      have z6_ : u6 = false := znb fun hu => z.symm.trans ((zu kF hu).2.2.2.2.1)
      have z5_ : u5 = false := znb fun hu => z.symm.trans ((zu l5 hu).2)
      have zd : u3 = true := by
        simp [Region.binds] at hd
        simp [hd]
      obtain ⟨rfl⟩ := zd
      subst z6_
      subst z5_
      subst z
      clear h0 hd
      rw [if_pos (by rfl)]
      go_simp
      exact unhide hK _ _ ⟨u0, u1, u2, true, true, false, false, W.heap.size, gn, cn, rfl, rfl, (fun _ => ba (zu kB rfl) _), (fun _ _ => vb_new W 3 [.int .i64 (i : Int)] _ rfl), zf, zf, zu l2, (fun _ => rfl), zf, zf⟩
    · intro h0 hd K hK
      have z : u5 = false := h0
      have z6_ : u6 = false := znb fun hu => z.symm.trans ((zu kF hu).2.2.2.2.2)
      have zd : u2 = true ∧ u4 = true := by
        simp [Region.binds] at hd
        simp [hd]
      obtain ⟨rfl, rfl⟩ := zd
      subst z6_
      subst z
      clear h0 hd
      rw [if_pos (by rfl)]
      have h4 := zu k4 rfl rfl
      have hb := (zu kB rfl)
      refine wp_append_full W (.tmp 28) (.tmp 30) 51 (by rfl) 3 iP _ 1 8 Try.underlying51 hi1 hy0 hy1 hy2 u m (L.map (Value.int .i64)) (by rfl) (by rw [List.length_map, unhide HL, Nat.mul_one]) (((unhide HU).bel hb).olds (unhide HL)) hu1 ⟨n4, 0, none⟩ 1 [.int .i64 (i : Int)] (by rfl) (by rfl) (src_any h4) hn (by omega) ?_
      intro cap w1 q1 q2 q3 q4 q5
      have HN : NewI V w1 W.heap.size m cap (L ++ [(i : Int)]) := ⟨q4, hb.size, q1, fun j x hj => by rw [Nat.zero_add]; exact q5 j _ (by rw [show [Value.int .i64 (i : Int)] = [(i : Int)].map (Value.int .i64) from rfl, ← List.map_append, List.getElem?_map, hj]; rfl)⟩
      go_simp
      exact unhide hK _ _ ⟨u0, u1, true, u3, true, true, false, n4, W.heap.size, cap, rfl, rfl, (fun _ => bc hb q3), (fun _ => zt), (fun _ _ => HN), zf, zu l2, zu l4, (fun _ => ⟨rfl, rfl⟩), zf⟩
    · intro h0 hd K hK
      have z : u6 = false := h0
      have zd0 : u0 = true ∧ u5 = true := by
        simp [Region.binds] at hd
        simp [hd]
      have zd : u0 = true ∧ u5 = true ∧ u1 = true ∧ u2 = true ∧ u3 = true ∧ u4 = true := ⟨zd0.1, zd0.2, (zu l2 (zu l5 zd0.2).1), (zu l5 zd0.2).1, (zu l4 (zu l5 zd0.2).2), (zu l5 zd0.2).2⟩
      obtain ⟨rfl, rfl, rfl, rfl, rfl, rfl⟩ := zd
      subst z
      clear h0 hd
      rw [if_pos (by rfl)]
      have h5 := zu k5 rfl rfl
      have hb := (zu kB rfl)
      go_simp
      refine (unhide HREC W _ _ hb h5).mono ?_
      rintro e w8 ⟨rfl, hz8⟩
      exact unhide hK _ _ ⟨true, true, true, true, true, true, true, n4, gn, cn, rfl, rfl, zt, (fun _ => zt), (fun _ => zt), (fun _ => hz8), (fun _ => rfl), (fun _ => rfl), (fun _ => ⟨rfl, rfl⟩), (fun _ => ⟨rfl, rfl, rfl, rfl, rfl, rfl⟩)⟩
  case hend =>
    intro Lb A W hI
    obtain ⟨u0, u1, u2, u3, u4, hI⟩ := hI
    obtain ⟨u5, u6, n4, gn, cn, hI⟩ := hI
    obtain ⟨hLb, hI⟩ := hI
    obtain ⟨hA, hI⟩ := hI
    obtain ⟨kB, hI⟩ := hI
    obtain ⟨k4, hI⟩ := hI
    obtain ⟨k5, hI⟩ := hI
    obtain ⟨kZ, hI⟩ := hI
    obtain ⟨l2, hI⟩ := hI
    obtain ⟨l4, hI⟩ := hI
    obtain ⟨l5, hI⟩ := hI
    have kF := hI
    clear hI
    subst hLb
    subst hA
    intro hL
    have hl : u0 = true ∧ u1 = true ∧ u2 = true ∧ u3 = true ∧ u4 = true ∧ u5 = true ∧ u6 = true := by
      have h2 := congrArg Array.toList hL
      simpa [List.replicate] using h2
    obtain ⟨rfl, rfl, rfl, rfl, rfl, rfl, rfl⟩ := hl
    exact unhide HQ n4 gn cn W (kZ rfl)

end Go.Proofs.Ytoidhlackoigkaa
