/-
  What the laws ask of a milling's answer: that two are the same, that its field is written over, and held.
-/
import Derived.Test.YtbjljofgpbecbaaMkRows
namespace Go.Proofs.Ytbjljofgpbecbaa
open Go.ChangeShapes Go.WideShapes Go.ChangeAt Go.RowKit
set_option linter.unusedVariables false
set_option linter.unusedSimpArgs false

set_option maxHeartbeats 1000000 in
theorem md_same (E bd Wr Hr cu ai de : Int) (ua ub : Option Addr) (p po q qo m ca cb : Nat) (F : List Int) (w : World) (hl : F.length = m) (hm : m ≤ 1048576) (h1 : Its w ua p po F) (h2 : Its w ub q qo F) :
    Calls Try.prog 26 #[.agg #[.int .i64 E, .int .i64 bd, .int .i64 Wr, .int .i64 Hr, .slice ua m ca, .int .i64 cu, .int .i64 ai, .int .i64 de], .agg #[.int .i64 E, .int .i64 bd, .int .i64 Wr, .int .i64 Hr, .slice ub m cb, .int .i64 cu, .int .i64 ai, .int .i64 de]] w fun e w' => e = .returned (.bool true) ∧ Below w.heap.size w w' := by
  have HB := hide (ba (ba (Below.refl w.heap.size w) (.cells #[.int .i64 E, .int .i64 bd, .int .i64 Wr, .int .i64 Hr, .slice ua m ca, .int .i64 cu, .int .i64 ai, .int .i64 de] 31)) (.cells #[.int .i64 E, .int .i64 bd, .int .i64 Wr, .int .i64 Hr, .slice ub m cb, .int .i64 cu, .int .i64 ai, .int .i64 de] 31))
  have HV1 := hide (vb_new1 w 31 [.int .i64 E, .int .i64 bd, .int .i64 Wr, .int .i64 Hr, .slice ua m ca, .int .i64 cu, .int .i64 ai, .int .i64 de] (.cells #[.int .i64 E, .int .i64 bd, .int .i64 Wr, .int .i64 Hr, .slice ub m cb, .int .i64 cu, .int .i64 ai, .int .i64 de] 31))
  have HV2 := hide (vb_new2 w 31 [.int .i64 E, .int .i64 bd, .int .i64 Wr, .int .i64 Hr, .slice ub m cb, .int .i64 cu, .int .i64 ai, .int .i64 de] (.cells #[.int .i64 E, .int .i64 bd, .int .i64 Wr, .int .i64 Hr, .slice ua m ca, .int .i64 cu, .int .i64 ai, .int .i64 de] 31))
  have HE := hide (fun X (hX : Below w.heap.size w X) => fd_same Wr Hr ua ub p po q qo m ca cb F X hl hm (h1.bel hX) (h2.bel hX))
  have s0 : (E != E) = false := by simp
  have s1 : (bd != bd) = false := by simp
  have s2 : (cu != cu) = false := by simp
  have s3 : (ai != ai) = false := by simp
  have s4 : (de != de) = false := by simp
  unfold fldV at *
  clear h1 h2 hl
  go_enter Try.func26, Try.ntmps26
  go_upto_region 1 with fail
  generalize (w.alloc (.cells #[.int .i64 E, .int .i64 bd, .int .i64 Wr, .int .i64 Hr, .slice ua m ca, .int .i64 cu, .int .i64 ai, .int .i64 de] 31)).alloc (.cells #[.int .i64 E, .int .i64 bd, .int .i64 Wr, .int .i64 Hr, .slice ub m cb, .int .i64 cu, .int .i64 ai, .int .i64 de] 31) = Wa at *
  have a0 := (unhide HV1).cell (m := 0) rfl
  have a1 := (unhide HV1).cell (m := 1) rfl
  have a2 := (unhide HV1).cell (m := 2) rfl
  have a3 := (unhide HV1).cell (m := 3) rfl
  have a4 := (unhide HV1).cell (m := 4) rfl
  have a5 := (unhide HV1).cell (m := 5) rfl
  have a6 := (unhide HV1).cell (m := 6) rfl
  have a7 := (unhide HV1).cell (m := 7) rfl
  have b0 := (unhide HV2).cell (m := 0) rfl
  have b1 := (unhide HV2).cell (m := 1) rfl
  have b2 := (unhide HV2).cell (m := 2) rfl
  have b3 := (unhide HV2).cell (m := 3) rfl
  have b4 := (unhide HV2).cell (m := 4) rfl
  have b5 := (unhide HV2).cell (m := 5) rfl
  have b6 := (unhide HV2).cell (m := 6) rfl
  have b7 := (unhide HV2).cell (m := 7) rfl
  go_wp2_with fail
  refine (unhide HE _ (unhide HB)).mono ?_
  rintro e W1 ⟨rfl, hb1⟩
  have HV3 := hide ((unhide HV1).bel hb1)
  have HV4 := hide ((unhide HV2).bel hb1)
  have HB1 := hide (bc (unhide HB) hb1)
  clear hb1 a0 b0 a1 b1 a2 b2 a3 b3 a4 b4 a5 b5 a6 b6 a7 b7
  have a0 := (unhide HV3).cell (m := 0) rfl
  have a1 := (unhide HV3).cell (m := 1) rfl
  have a2 := (unhide HV3).cell (m := 2) rfl
  have a3 := (unhide HV3).cell (m := 3) rfl
  have a4 := (unhide HV3).cell (m := 4) rfl
  have a5 := (unhide HV3).cell (m := 5) rfl
  have a6 := (unhide HV3).cell (m := 6) rfl
  have a7 := (unhide HV3).cell (m := 7) rfl
  have b0 := (unhide HV4).cell (m := 0) rfl
  have b1 := (unhide HV4).cell (m := 1) rfl
  have b2 := (unhide HV4).cell (m := 2) rfl
  have b3 := (unhide HV4).cell (m := 3) rfl
  have b4 := (unhide HV4).cell (m := 4) rfl
  have b5 := (unhide HV4).cell (m := 5) rfl
  have b6 := (unhide HV4).cell (m := 6) rfl
  have b7 := (unhide HV4).cell (m := 7) rfl
  go_wp2_with fail
  go_ret
  exact ⟨rfl, unhide HB1⟩
set_option maxHeartbeats 1000000 in
theorem md_mark (E bd Wr Hr cu ai de : Int) (u : Option Addr) (B m c : Nat) (L : List Int) (k : Int) (w : World) (hm : m ≤ 1048576) (k0 : 0 ≤ k) (k1 : k ≤ 8000000) (hr : Row w B 3 1 (.slice u m c) m L) :
    Calls Try.prog 30 #[.agg #[.int .i64 E, .int .i64 bd, .int .i64 Wr, .int .i64 Hr, .slice u m c, .int .i64 cu, .int .i64 ai, .int .i64 de], .int .i64 k] w fun e w' => e = .returned (.int .i64 (k + (m : Int))) ∧ Row w' B 3 1 (.slice u m c) m (marks k m) ∧ Mo u w w' := by
  have hb : Below w.heap.size w (w.alloc (.cells #[.int .i64 E, .int .i64 bd, .int .i64 Wr, .int .i64 Hr, .slice u m c, .int .i64 cu, .int .i64 ai, .int .i64 de] 31)) := ba (Below.refl _ _) _
  have HM := hide (fd_markR Wr Hr u B m c L k _ hm k0 k1 (hr.below hb))
  have HB := hide hb
  unfold fldV at *
  clear hr hb
  go_enter Try.func30, Try.ntmps30
  go_wp2_with fail
  refine (unhide HM).mono ?_
  rintro e w' ⟨rfl, hro, hmo⟩
  have HRO := hide hro
  have HMO := hide hmo
  clear hro hmo
  go_wp2_with fail
  go_ret
  exact ⟨rfl, unhide HRO, (Mo.of_bel (unhide HB)).trans (unhide HMO)⟩
set_option maxHeartbeats 1000000 in
theorem md_held (E bd Wr Hr cu ai de : Int) (u : Option Addr) (p po m c : Nat) (k : Int) (w : World) (hm : m ≤ 1048576) (k0 : 0 ≤ k) (k1 : k ≤ 1000000) (hu : Its w u p po (marks k m)) :
    Calls Try.prog 31 #[.agg #[.int .i64 E, .int .i64 bd, .int .i64 Wr, .int .i64 Hr, .slice u m c, .int .i64 cu, .int .i64 ai, .int .i64 de], .int .i64 k] w fun e w' => e = .returned (.int .i64 (k + (m : Int))) ∧ Below w.heap.size w w' := by
  have hb : Below w.heap.size w (w.alloc (.cells #[.int .i64 E, .int .i64 bd, .int .i64 Wr, .int .i64 Hr, .slice u m c, .int .i64 cu, .int .i64 ai, .int .i64 de] 31)) := ba (Below.refl _ _) _
  have HM := hide (fd_held Wr Hr u p po m c k _ hm k0 k1 (hu.bel hb))
  have HB := hide hb
  have t : decide (k + (m : Int) < 0) = false := decide_eq_false (by omega)
  unfold fldV at *
  clear hu hb
  go_enter Try.func31, Try.ntmps31
  go_wp2_with fail
  refine (unhide HM).mono ?_
  rintro e w' ⟨rfl, hs⟩
  have HB2 := hide (bc (unhide HB) hs)
  clear hs
  go_wp2_with fail
  go_ret
  exact ⟨rfl, unhide HB2⟩
end Go.Proofs.Ytbjljofgpbecbaa
