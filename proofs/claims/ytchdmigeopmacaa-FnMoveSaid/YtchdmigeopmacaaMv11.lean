/-
  The statement of FnMove that draws where a point is moved to, walked alone.
-/
import Derived.Test.YtchdmigeopmacaaQ20
import Derived.Test.YtchdmigeopmacaaSou
import Derived.Test.YtchdmigeopmacaaSkdT
namespace Go.Proofs.Ytchdmigeopmacaa
open Go.ChangeShapes Go.WideShapes Go.ChangeAt Go.RowKit
set_option linter.unusedVariables false
set_option linter.unusedSimpArgs false

set_option maxHeartbeats 1000000 in
theorem at_in (b off len cap : Nat) (i n x y : Int) (w : World) (hl0 : 1 ≤ len) (hl : len ≤ 1048576) (hi : 0 ≤ i ∧ i ≤ 2) (hn : 1 < n ∧ n ≤ 1000)
    (hx : w.cell? ⟨b, off + (i % (len : Int)).toNat, none⟩ = some (.int .u8 x)) (hy : w.cell? ⟨b, off + ((i + 1) % (len : Int)).toNat, none⟩ = some (.int .u8 y)) (bx : 0 ≤ x ∧ x ≤ 255) (by_ : 0 ≤ y ∧ y ≤ 255) :
    Calls Try.prog 15 #[.slice (some ⟨b, off, none⟩) len cap, .int .i64 i, .int .i64 n] w fun e w' => ∃ r : Int, e = .returned (.int .i64 r) ∧ 0 ≤ r ∧ r < n ∧ Below w.heap.size w w' := by
  have h1 : decide (n ≤ 1) = false := decide_eq_false (by omega)
  have h2 : ((len : Int) == 0) = false := by rw [beq_eq_false_iff_ne]; omega
  have h3 : (n == 0) = false := by rw [beq_eq_false_iff_ne]; omega
  have t1 : i.tmod (len : Int) = i % (len : Int) := Int.tmod_eq_emod_of_nonneg (by omega)
  have t2 : (i + 1).tmod (len : Int) = (i + 1) % (len : Int) := Int.tmod_eq_emod_of_nonneg (by omega)
  have e1 := Int.emod_nonneg i (b := (len : Int)) (by omega)
  have e2 := Int.emod_lt_of_pos i (b := (len : Int)) (by omega)
  have e3 := Int.emod_nonneg (i + 1) (b := (len : Int)) (by omega)
  have e4 := Int.emod_lt_of_pos (i + 1) (b := (len : Int)) (by omega)
  have q1 : i.tdiv (len : Int) = i / (len : Int) := Int.tdiv_eq_ediv_of_nonneg (by omega)
  have q2 := Int.ediv_nonneg (a := i) (b := (len : Int)) (by omega) (by omega)
  have q3 := Int.ediv_le_self (a := i) (len : Int) (by omega)
  go_enter Try.func15, Try.ntmps15
  go_wp2_with fail
  go_quiet (fail)
  go_wp2_with fail
  go_ret
  exact ⟨_, rfl, Int.emod_nonneg _ (by omega), Int.emod_lt_of_pos _ (by omega), ⟨rfl, rfl, rfl, Nat.le_refl _, fun _ _ => rfl⟩⟩

set_option maxHeartbeats 1000000 in
theorem at_any (a : Option Addr) (len cap B : Nat) (zs : List Int) (i n : Int) (w : World) (hc : Code B w a len cap zs) (hl : len ≤ 1048576) (hi : 0 ≤ i ∧ i ≤ 2) (hn : 1 ≤ n ∧ n ≤ 1000) :
    Calls Try.prog 15 #[.slice a len cap, .int .i64 i, .int .i64 n] w fun e w' => ∃ r : Int, e = .returned (.int .i64 r) ∧ 0 ≤ r ∧ r < n ∧ Below w.heap.size w w' := by
  by_cases h1 : n = 1
  · subst h1
    clear hc
    go_enter Try.func15, Try.ntmps15
    go_wp2_with fail
    go_ret
    exact ⟨0, rfl, by omega, by omega, Below.refl _ _⟩
  · rcases hc with rfl | ⟨b, off, rfl, _, _, h2, h3, h4, h5, h6⟩
    · have d1 : decide (n ≤ 1) = false := decide_eq_false (by omega)
      have d3 : (n == 0) = false := by rw [beq_eq_false_iff_ne]; omega
      have hw : IntKind.i64.wrap (i * 7) = i * 7 := wrap_i (by omega) (by omega)
      have t1 : (i * 7).tmod n = (i * 7) % n := Int.tmod_eq_emod_of_nonneg (by omega)
      go_enter Try.func15, Try.ntmps15
      go_wp2_with fail
      go_ret
      exact ⟨_, rfl, Int.emod_nonneg _ (by omega), Int.emod_lt_of_pos _ (by omega), Below.refl _ _⟩
    · by_cases h0 : len = 0
      · subst h0
        have d1 : decide (n ≤ 1) = false := decide_eq_false (by omega)
        have d3 : (n == 0) = false := by rw [beq_eq_false_iff_ne]; omega
        have hw : IntKind.i64.wrap (i * 7) = i * 7 := wrap_i (by omega) (by omega)
        have t1 : (i * 7).tmod n = (i * 7) % n := Int.tmod_eq_emod_of_nonneg (by omega)
        clear h5 h6 h4
        go_enter Try.func15, Try.ntmps15
        go_wp2_with fail
        go_ret
        exact ⟨_, rfl, Int.emod_nonneg _ (by omega), Int.emod_lt_of_pos _ (by omega), Below.refl _ _⟩
      · have e1 := Int.emod_nonneg i (b := (len : Int)) (by omega)
        have e2 := Int.emod_lt_of_pos i (b := (len : Int)) (by omega)
        have e3 := Int.emod_nonneg (i + 1) (b := (len : Int)) (by omega)
        have e4 := Int.emod_lt_of_pos (i + 1) (b := (len : Int)) (by omega)
        exact at_in b off len cap i n _ _ w (by omega) hl hi (by omega) (h5 (i % (len : Int)).toNat (by omega)) (h5 ((i + 1) % (len : Int)).toNat (by omega)) (h6 _) (h6 _)

theorem pair_c0 {W : World} {q t : Nat} {a b : Value} (h : W.heap[q]? = some (.cells #[a, b] t)) : W.cell? ⟨q, 0, none⟩ = some a := by simp [World.cell?, h]
theorem pair_c1 {W : World} {q t : Nat} {a b : Value} (h : W.heap[q]? = some (.cells #[a, b] t)) : W.cell? ⟨q, 1, none⟩ = some b := by simp [World.cell?, h]
theorem pair_f {W : World} {q t : Nat} {a b : Value} (h : W.heap[q]? = some (.cells #[a, b] t)) (o : Nat) : W.frozen? ⟨q, o, none⟩ = false := by simp [World.frozen?, h]
theorem pair_set0 {W : World} {q t : Nat} {a b x : Value} (h : W.heap[q]? = some (.cells #[a, b] t)) : (W.setCell ⟨q, 0, none⟩ x).heap[q]? = some (.cells #[x, b] t) := by
  show (W.heap.modify q _)[q]? = _
  rw [Array.getElem?_modify, if_pos rfl, h]
  simp
theorem pair_set1 {W : World} {q t : Nat} {a b x : Value} (h : W.heap[q]? = some (.cells #[a, b] t)) : (W.setCell ⟨q, 1, none⟩ x).heap[q]? = some (.cells #[a, x] t) := by
  show (W.heap.modify q _)[q]? = _
  rw [Array.getElem?_modify, if_pos rfl, h]
  simp
theorem pair_set {W : World} {q t : Nat} {a b x y : Value} (h : W.heap[q]? = some (.cells #[a, b] t)) : ((W.setCell ⟨q, 0, none⟩ x).setCell ⟨q, 1, none⟩ y).heap[q]? = some (.cells #[x, y] t) := pair_set1 (pair_set0 h)
noncomputable def reg5 (id : Nat) : Go.Code := match Try.f5.body with | some c => (regOf id c).getD .skip | none => .skip

set_option maxHeartbeats 4000000 in
set_option maxRecDepth 100000 in
theorem mv11 {s0 s2 s3 s4 s5 s7 s8 s10 s11 s12 s13 s14 s15 s16 s17 s18 s19 s20 s21 s22 s23 s24 s25 s26 s27 s28 s29 s30 s31 s32 s33 s34 s35 s36 s37 s38 s39 s40 s41 s42 s43 s44 s45 s46 s47 s48 s49 s50 s51 s52 s53 s54 s55 s56 s57 s58 s59 s60 s61 s62 s63 s64 s65 s66 s67 s68 s69 s70 s71 s72 s73 s74 s75 s76 s77 s78 s79 s80 s81 s82 s83 s84 s85 s86 s87 s88 s89 s90 s91 s92 s93 s94 s95 s96 s97 s98 s99 s100 s101 s102 s103 s104 s105 s106 s107 s108 s109 s110 s111 s112 s113 s114 s115 s116 s117 s118 s119 s120 s121 s122 s123 s124 s125 s126 : Value} {a2 : Option Addr} {len2 cap2 gp N cp k : Nat} {x y : Int} {V : World} {K_ : Act → World → Prop} (hk : k < N) (hN : N ≤ 24) (hgp : gp < V.heap.size)
    (bdx : 0 ≤ x ∧ x ≤ 100000) (bdy : 0 ≤ y ∧ y ≤ 100000) (cx : V.cell? ⟨gp, k * 2, none⟩ = some (.int .i64 x)) (cy : V.cell? ⟨gp, k * 2 + 1, none⟩ = some (.int .i64 y))
    (HAT : Hid (∀ W, Below V.heap.size V W → ∀ i : Int, 0 ≤ i ∧ i ≤ 2 → Calls Try.prog 15 #[.slice a2 len2 cap2, .int .i64 i, .int .i64 9] W fun e w' => ∃ r : Int, e = .returned (.int .i64 r) ∧ 0 ≤ r ∧ r < 9 ∧ Below W.heap.size W w'))
    (hQ : ∀ (y73 y74 y75 y76 y77 y78 y79 y80 y81 y82 y83 y84 y85 y86 y87 y88 y89 : Value) (rx ry : Int) (q : Nat) (W' : World), 0 ≤ rx ∧ rx < 9 → 0 ≤ ry ∧ ry < 9 → Below V.heap.size V W' → V.heap.size ≤ q → W'.heap[q]? = some (.cells #[.int .i64 (x + rx), .int .i64 (y + ry)] 42) → K_ { tmps := #[s0, .slice a2 len2 cap2, s2, s3, s4, s5, .slice (some ⟨gp, 0, none⟩) N cp, s7, s8, .int .i64 ((k : Int)), s10, s11, s12, .pointer (some ⟨q, 0, none⟩), s14, s15, s16, s17, s18, s19, s20, s21, s22, s23, s24, s25, s26, s27, s28, s29, s30, s31, s32, s33, s34, s35, s36, s37, s38, s39, s40, s41, s42, s43, s44, s45, s46, s47, s48, s49, s50, s51, s52, s53, s54, s55, s56, s57, s58, s59, s60, s61, s62, s63, s64, s65, s66, s67, s68, s69, s70, s71, s72, y73, y74, y75, y76, y77, y78, y79, y80, y81, y82, y83, y84, y85, y86, y87, y88, y89, s90, s91, s92, s93, s94, s95, s96, s97, s98, s99, s100, s101, s102, s103, s104, s105, s106, s107, s108, s109, s110, s111, s112, s113, s114, s115, s116, s117, s118, s119, s120, s121, s122, s123, s124, s125, s126], defers := [] } W') :
    Go.Code.wp Try.prog (reg5 11) (Only K_) { tmps := #[s0, .slice a2 len2 cap2, s2, s3, s4, s5, .slice (some ⟨gp, 0, none⟩) N cp, s7, s8, .int .i64 ((k : Int)), s10, s11, s12, s13, s14, s15, s16, s17, s18, s19, s20, s21, s22, s23, s24, s25, s26, s27, s28, s29, s30, s31, s32, s33, s34, s35, s36, s37, s38, s39, s40, s41, s42, s43, s44, s45, s46, s47, s48, s49, s50, s51, s52, s53, s54, s55, s56, s57, s58, s59, s60, s61, s62, s63, s64, s65, s66, s67, s68, s69, s70, s71, s72, s73, s74, s75, s76, s77, s78, s79, s80, s81, s82, s83, s84, s85, s86, s87, s88, s89, s90, s91, s92, s93, s94, s95, s96, s97, s98, s99, s100, s101, s102, s103, s104, s105, s106, s107, s108, s109, s110, s111, s112, s113, s114, s115, s116, s117, s118, s119, s120, s121, s122, s123, s124, s125, s126], defers := [] } V := by
  have i1 : (k : Int) < (N : Int) := by omega
  have i0 : (0 : Int) ≤ (k : Int) := by omega
  have HQ := hide hQ
  clear hQ
  conv => arg 2; whnf
  refine wp_region_inv (fun Lb A W => ∃ (u0 u1 u2 u3 u4 u5 u6 u7 u8 u9 u10 u11 u12 u13 u14 u15 u16 u17 u18 : Bool) (rx : Int) (ry : Int) (q : Nat), Lb = #[u0, u1, u2, u3, u4, u5, u6, u7, u8, u9, u10, u11, u12, u13, u14, u15, u16, u17, u18] ∧ A = ({ tmps := #[s0, .slice a2 len2 cap2, s2, s3, s4, s5, .slice (some ⟨gp, 0, none⟩) N cp, s7, s8, .int .i64 ((k : Int)), s10, s11, s12, (bif u17 then .pointer (some ⟨q, 0, none⟩) else s13), s14, s15, s16, s17, s18, s19, s20, s21, s22, s23, s24, s25, s26, s27, s28, s29, s30, s31, s32, s33, s34, s35, s36, s37, s38, s39, s40, s41, s42, s43, s44, s45, s46, s47, s48, s49, s50, s51, s52, s53, s54, s55, s56, s57, s58, s59, s60, s61, s62, s63, s64, s65, s66, s67, s68, s69, s70, s71, s72, (bif u0 then .slice (some ⟨gp, 0, none⟩) N cp else s73), (bif u1 then .int .i64 ((k : Int)) else s74), (bif u2 then .pointer (some ⟨gp, k * 2, none⟩) else s75), (bif u3 then .pointer (some ⟨gp, k * 2, none⟩) else s76), (bif u4 then .int .i64 (x) else s77), (bif u5 then .slice a2 len2 cap2 else s78), (bif u6 then .int .i64 (rx) else s79), (bif u7 then .int .i64 (x + rx) else s80), (bif u8 then .slice (some ⟨gp, 0, none⟩) N cp else s81), (bif u9 then .int .i64 ((k : Int)) else s82), (bif u10 then .pointer (some ⟨gp, k * 2, none⟩) else s83), (bif u11 then .pointer (some ⟨gp, k * 2 + 1, none⟩) else s84), (bif u12 then .int .i64 (y) else s85), (bif u13 then .slice a2 len2 cap2 else s86), (bif u14 then .int .i64 (ry) else s87), (bif u15 then .int .i64 (y + ry) else s88), (bif u16 then .agg #[.int .i64 (x + rx), .int .i64 (y + ry)] else s89), s90, s91, s92, s93, s94, s95, s96, s97, s98, s99, s100, s101, s102, s103, s104, s105, s106, s107, s108, s109, s110, s111, s112, s113, s114, s115, s116, s117, s118, s119, s120, s121, s122, s123, s124, s125, s126], defers := [] } : Act) ∧ Below V.heap.size V W ∧ (u6 = true → 0 ≤ rx ∧ rx < 9) ∧ (u14 = true → 0 ≤ ry ∧ ry < 9) ∧ (u17 = true → u18 = false → V.heap.size ≤ q ∧ W.heap[q]? = some (.cells #[.int .i64 0, .int .i64 0] 42)) ∧ (u18 = true → V.heap.size ≤ q ∧ W.heap[q]? = some (.cells #[.int .i64 (x + rx), .int .i64 (y + ry)] 42)) ∧ (u2 = true → u0 = true ∧ u1 = true) ∧ (u3 = true → u2 = true) ∧ (u4 = true → u3 = true) ∧ (u6 = true → u5 = true) ∧ (u7 = true → u4 = true ∧ u6 = true) ∧ (u10 = true → u8 = true ∧ u9 = true) ∧ (u11 = true → u10 = true) ∧ (u12 = true → u11 = true) ∧ (u14 = true → u13 = true ∧ u6 = true) ∧ (u15 = true → u12 = true ∧ u14 = true) ∧ (u16 = true → u7 = true ∧ u15 = true) ∧ (u18 = true → u0 = true ∧ u1 = true ∧ u2 = true ∧ u3 = true ∧ u4 = true ∧ u5 = true ∧ u6 = true ∧ u7 = true ∧ u8 = true ∧ u9 = true ∧ u10 = true ∧ u11 = true ∧ u12 = true ∧ u13 = true ∧ u14 = true ∧ u15 = true ∧ u16 = true ∧ u17 = true)) (by kernel_rfl) (by kernel_rfl) ?h0 ?hstep ?hend
  case h0 =>
    exact ⟨false, false, false, false, false, false, false, false, false, false, false, false, false, false, false, false, false, false, false, 0, 0, 0, rfl, rfl, (by first | exact Below.refl _ _ | exact Below.drew (Below.refl _ _)), (fun h => nomatch h), (fun h => nomatch h), (fun h => nomatch h), (fun h => nomatch h), (fun h => nomatch h), (fun h => nomatch h), (fun h => nomatch h), (fun h => nomatch h), (fun h => nomatch h), (fun h => nomatch h), (fun h => nomatch h), (fun h => nomatch h), (fun h => nomatch h), (fun h => nomatch h), (fun h => nomatch h), (fun h => nomatch h)⟩
  case hstep =>
    rintro Lb A W ⟨u0, u1, u2, u3, u4, u5, u6, u7, u8, u9, u10, u11, u12, u13, u14, u15, u16, u17, u18, rx, ry, q, rfl, rfl, kB, bx, bY, kA, kZ, c2, c3, c4, c6, c7, c10, c11, c12, c14, c15, c16, kF⟩
    refine ⟨?_, ?_, ?_, ?_, ?_, ?_, ?_, ?_, ?_, ?_, ?_, ?_, ?_, ?_, ?_, ?_, ?_, ?_, ?_, trivial⟩
    · intro h0 hd K hK
      have z : u0 = false := h0
      have z18_ : u18 = false := by
        cases hu : u18 with
        | false => rfl
        | true => exact nomatch z.symm.trans ((kF hu).1)
      have H_kB := hide kB
      have H_bx := hide bx
      have H_bY := hide bY
      have H_kA := hide kA
      have H_kZ := hide kZ
      have H_c2 := hide c2
      have H_c3 := hide c3
      have H_c4 := hide c4
      have H_c6 := hide c6
      have H_c7 := hide c7
      have H_c10 := hide c10
      have H_c11 := hide c11
      have H_c12 := hide c12
      have H_c14 := hide c14
      have H_c15 := hide c15
      have H_c16 := hide c16
      have H_kF := hide kF
      clear kB bx bY kA kZ c2 c3 c4 c6 c7 c10 c11 c12 c14 c15 c16 kF
      subst z18_
      subst z
      clear h0 hd
      rw [if_pos (by rfl)]
      go_simp
      exact unhide hK _ _ ⟨true, u1, u2, u3, u4, u5, u6, u7, u8, u9, u10, u11, u12, u13, u14, u15, u16, u17, false, rx, ry, q, rfl, rfl, unhide H_kB, unhide H_bx, unhide H_bY, unhide H_kA, (fun h => nomatch h), (fun h => ⟨rfl, (unhide H_c2 h).2⟩), unhide H_c3, unhide H_c4, unhide H_c6, unhide H_c7, unhide H_c10, unhide H_c11, unhide H_c12, unhide H_c14, unhide H_c15, unhide H_c16, (fun h => nomatch h)⟩
    · intro h0 hd K hK
      have z : u1 = false := h0
      have z18_ : u18 = false := by
        cases hu : u18 with
        | false => rfl
        | true => exact nomatch z.symm.trans ((kF hu).2.1)
      have H_kB := hide kB
      have H_bx := hide bx
      have H_bY := hide bY
      have H_kA := hide kA
      have H_kZ := hide kZ
      have H_c2 := hide c2
      have H_c3 := hide c3
      have H_c4 := hide c4
      have H_c6 := hide c6
      have H_c7 := hide c7
      have H_c10 := hide c10
      have H_c11 := hide c11
      have H_c12 := hide c12
      have H_c14 := hide c14
      have H_c15 := hide c15
      have H_c16 := hide c16
      have H_kF := hide kF
      clear kB bx bY kA kZ c2 c3 c4 c6 c7 c10 c11 c12 c14 c15 c16 kF
      subst z18_
      subst z
      clear h0 hd
      rw [if_pos (by rfl)]
      go_simp
      exact unhide hK _ _ ⟨u0, true, u2, u3, u4, u5, u6, u7, u8, u9, u10, u11, u12, u13, u14, u15, u16, u17, false, rx, ry, q, rfl, rfl, unhide H_kB, unhide H_bx, unhide H_bY, unhide H_kA, (fun h => nomatch h), (fun h => ⟨(unhide H_c2 h).1, rfl⟩), unhide H_c3, unhide H_c4, unhide H_c6, unhide H_c7, unhide H_c10, unhide H_c11, unhide H_c12, unhide H_c14, unhide H_c15, unhide H_c16, (fun h => nomatch h)⟩
    · intro h0 hd K hK
      have z : u2 = false := h0
      have z18_ : u18 = false := by
        cases hu : u18 with
        | false => rfl
        | true => exact nomatch z.symm.trans ((kF hu).2.2.1)
      have zd : u0 = true ∧ u1 = true := by
        simp [Region.binds] at hd
        simp [hd]
      have H_kB := hide kB
      have H_bx := hide bx
      have H_bY := hide bY
      have H_kA := hide kA
      have H_kZ := hide kZ
      have H_c2 := hide c2
      have H_c3 := hide c3
      have H_c4 := hide c4
      have H_c6 := hide c6
      have H_c7 := hide c7
      have H_c10 := hide c10
      have H_c11 := hide c11
      have H_c12 := hide c12
      have H_c14 := hide c14
      have H_c15 := hide c15
      have H_c16 := hide c16
      have H_kF := hide kF
      clear kB bx bY kA kZ c2 c3 c4 c6 c7 c10 c11 c12 c14 c15 c16 kF
      obtain ⟨rfl, rfl⟩ := zd
      subst z18_
      subst z
      clear h0 hd
      rw [if_pos (by rfl)]
      go_simp
      exact unhide hK _ _ ⟨true, true, true, u3, u4, u5, u6, u7, u8, u9, u10, u11, u12, u13, u14, u15, u16, u17, false, rx, ry, q, rfl, rfl, unhide H_kB, unhide H_bx, unhide H_bY, unhide H_kA, (fun h => nomatch h), (fun _ => ⟨rfl, rfl⟩), (fun h => rfl), unhide H_c4, unhide H_c6, unhide H_c7, unhide H_c10, unhide H_c11, unhide H_c12, unhide H_c14, unhide H_c15, unhide H_c16, (fun h => nomatch h)⟩
    · intro h0 hd K hK
      have z : u3 = false := h0
      have z18_ : u18 = false := by
        cases hu : u18 with
        | false => rfl
        | true => exact nomatch z.symm.trans ((kF hu).2.2.2.1)
      have zd : u2 = true := by
        simp [Region.binds] at hd
        simp [hd]
      have H_kB := hide kB
      have H_bx := hide bx
      have H_bY := hide bY
      have H_kA := hide kA
      have H_kZ := hide kZ
      have H_c2 := hide c2
      have H_c3 := hide c3
      have H_c4 := hide c4
      have H_c6 := hide c6
      have H_c7 := hide c7
      have H_c10 := hide c10
      have H_c11 := hide c11
      have H_c12 := hide c12
      have H_c14 := hide c14
      have H_c15 := hide c15
      have H_c16 := hide c16
      have H_kF := hide kF
      clear kB bx bY kA kZ c2 c3 c4 c6 c7 c10 c11 c12 c14 c15 c16 kF
      obtain ⟨rfl⟩ := zd
      subst z18_
      subst z
      clear h0 hd
      rw [if_pos (by rfl)]
      go_simp
      exact unhide hK _ _ ⟨u0, u1, true, true, u4, u5, u6, u7, u8, u9, u10, u11, u12, u13, u14, u15, u16, u17, false, rx, ry, q, rfl, rfl, unhide H_kB, unhide H_bx, unhide H_bY, unhide H_kA, (fun h => nomatch h), unhide H_c2, (fun _ => rfl), (fun h => rfl), unhide H_c6, unhide H_c7, unhide H_c10, unhide H_c11, unhide H_c12, unhide H_c14, unhide H_c15, unhide H_c16, (fun h => nomatch h)⟩
    · intro h0 hd K hK
      have z : u4 = false := h0
      have z18_ : u18 = false := by
        cases hu : u18 with
        | false => rfl
        | true => exact nomatch z.symm.trans ((kF hu).2.2.2.2.1)
      have zd : u3 = true := by
        simp [Region.binds] at hd
        simp [hd]
      have H_kB := hide kB
      have H_bx := hide bx
      have H_bY := hide bY
      have H_kA := hide kA
      have H_kZ := hide kZ
      have H_c2 := hide c2
      have H_c3 := hide c3
      have H_c4 := hide c4
      have H_c6 := hide c6
      have H_c7 := hide c7
      have H_c10 := hide c10
      have H_c11 := hide c11
      have H_c12 := hide c12
      have H_c14 := hide c14
      have H_c15 := hide c15
      have H_c16 := hide c16
      have H_kF := hide kF
      clear kB bx bY kA kZ c2 c3 c4 c6 c7 c10 c11 c12 c14 c15 c16 kF
      obtain ⟨rfl⟩ := zd
      subst z18_
      subst z
      clear h0 hd
      rw [if_pos (by rfl)]
      have cc := keep1 (unhide H_kB) cx
      go_simp
      exact unhide hK _ _ ⟨u0, u1, u2, true, true, u5, u6, u7, u8, u9, u10, u11, u12, u13, u14, u15, u16, u17, false, rx, ry, q, rfl, rfl, unhide H_kB, unhide H_bx, unhide H_bY, unhide H_kA, (fun h => nomatch h), unhide H_c2, unhide H_c3, (fun _ => rfl), unhide H_c6, (fun h => ⟨rfl, (unhide H_c7 h).2⟩), unhide H_c10, unhide H_c11, unhide H_c12, unhide H_c14, unhide H_c15, unhide H_c16, (fun h => nomatch h)⟩
    · intro h0 hd K hK
      have z : u5 = false := h0
      have z18_ : u18 = false := by
        cases hu : u18 with
        | false => rfl
        | true => exact nomatch z.symm.trans ((kF hu).2.2.2.2.2.1)
      have H_kB := hide kB
      have H_bx := hide bx
      have H_bY := hide bY
      have H_kA := hide kA
      have H_kZ := hide kZ
      have H_c2 := hide c2
      have H_c3 := hide c3
      have H_c4 := hide c4
      have H_c6 := hide c6
      have H_c7 := hide c7
      have H_c10 := hide c10
      have H_c11 := hide c11
      have H_c12 := hide c12
      have H_c14 := hide c14
      have H_c15 := hide c15
      have H_c16 := hide c16
      have H_kF := hide kF
      clear kB bx bY kA kZ c2 c3 c4 c6 c7 c10 c11 c12 c14 c15 c16 kF
      subst z18_
      subst z
      clear h0 hd
      rw [if_pos (by rfl)]
      go_simp
      exact unhide hK _ _ ⟨u0, u1, u2, u3, u4, true, u6, u7, u8, u9, u10, u11, u12, u13, u14, u15, u16, u17, false, rx, ry, q, rfl, rfl, unhide H_kB, unhide H_bx, unhide H_bY, unhide H_kA, (fun h => nomatch h), unhide H_c2, unhide H_c3, unhide H_c4, (fun h => rfl), unhide H_c7, unhide H_c10, unhide H_c11, unhide H_c12, unhide H_c14, unhide H_c15, unhide H_c16, (fun h => nomatch h)⟩
    · intro h0 hd K hK
      have z : u6 = false := h0
      have z18_ : u18 = false := by
        cases hu : u18 with
        | false => rfl
        | true => exact nomatch z.symm.trans ((kF hu).2.2.2.2.2.2.1)
      have z7_ : u7 = false := by
        cases hu : u7 with
        | false => rfl
        | true => exact nomatch z.symm.trans ((c7 hu).2)
      have z14_ : u14 = false := by
        cases hu : u14 with
        | false => rfl
        | true => exact nomatch z.symm.trans ((c14 hu).2)
      have z16_ : u16 = false := by
        cases hu : u16 with
        | false => rfl
        | true => exact nomatch z.symm.trans ((c7 (c16 hu).1).2)
      have zd : u5 = true := by
        simp [Region.binds] at hd
        simp [hd]
      have H_kB := hide kB
      have H_bx := hide bx
      have H_bY := hide bY
      have H_kA := hide kA
      have H_kZ := hide kZ
      have H_c2 := hide c2
      have H_c3 := hide c3
      have H_c4 := hide c4
      have H_c6 := hide c6
      have H_c7 := hide c7
      have H_c10 := hide c10
      have H_c11 := hide c11
      have H_c12 := hide c12
      have H_c14 := hide c14
      have H_c15 := hide c15
      have H_c16 := hide c16
      have H_kF := hide kF
      clear kB bx bY kA kZ c2 c3 c4 c6 c7 c10 c11 c12 c14 c15 c16 kF
      obtain ⟨rfl⟩ := zd
      subst z18_
      subst z7_
      subst z14_
      subst z16_
      subst z
      clear h0 hd
      rw [if_pos (by rfl)]
      go_simp
      refine (unhide HAT _ (unhide H_kB) 1 (by omega)).mono ?_
      rintro e w8 ⟨r, rfl, hr1, hr2, hb8⟩
      exact unhide hK _ _ ⟨u0, u1, u2, u3, u4, true, true, false, u8, u9, u10, u11, u12, u13, false, u15, false, u17, false, r, ry, q, rfl, rfl, (bc (unhide H_kB) hb8), (fun _ => ⟨hr1, hr2⟩), (fun h => nomatch h), (fun h1 h2 => ⟨(unhide H_kA h1 rfl).1, (hb8.block _ (Array.getElem?_eq_some_iff.1 (unhide H_kA h1 rfl).2).1).trans (unhide H_kA h1 rfl).2⟩), (fun h => nomatch h), unhide H_c2, unhide H_c3, unhide H_c4, (fun _ => rfl), (fun h => nomatch h), unhide H_c10, unhide H_c11, unhide H_c12, (fun h => nomatch h), unhide H_c15, (fun h => nomatch h), (fun h => nomatch h)⟩
    · intro h0 hd K hK
      have z : u7 = false := h0
      have z18_ : u18 = false := by
        cases hu : u18 with
        | false => rfl
        | true => exact nomatch z.symm.trans ((kF hu).2.2.2.2.2.2.2.1)
      have zd : u4 = true ∧ u6 = true := by
        simp [Region.binds] at hd
        simp [hd]
      have H_kB := hide kB
      have H_bx := hide bx
      have H_bY := hide bY
      have H_kA := hide kA
      have H_kZ := hide kZ
      have H_c2 := hide c2
      have H_c3 := hide c3
      have H_c4 := hide c4
      have H_c6 := hide c6
      have H_c7 := hide c7
      have H_c10 := hide c10
      have H_c11 := hide c11
      have H_c12 := hide c12
      have H_c14 := hide c14
      have H_c15 := hide c15
      have H_c16 := hide c16
      have H_kF := hide kF
      clear kB bx bY kA kZ c2 c3 c4 c6 c7 c10 c11 c12 c14 c15 c16 kF
      obtain ⟨rfl, rfl⟩ := zd
      subst z18_
      subst z
      clear h0 hd
      rw [if_pos (by rfl)]
      have hb := unhide H_bx rfl
      go_simp
      try rw [wrap_i (show -9223372036854775808 ≤ x + rx by omega) (show x + rx ≤ 9223372036854775807 by omega)]
      exact unhide hK _ _ ⟨u0, u1, u2, u3, true, u5, true, true, u8, u9, u10, u11, u12, u13, u14, u15, u16, u17, false, rx, ry, q, rfl, rfl, unhide H_kB, unhide H_bx, unhide H_bY, unhide H_kA, (fun h => nomatch h), unhide H_c2, unhide H_c3, unhide H_c4, unhide H_c6, (fun _ => ⟨rfl, rfl⟩), unhide H_c10, unhide H_c11, unhide H_c12, (fun h => ⟨(unhide H_c14 h).1, rfl⟩), unhide H_c15, (fun h => ⟨rfl, (unhide H_c16 h).2⟩), (fun h => nomatch h)⟩
    · intro h0 hd K hK
      have z : u8 = false := h0
      have z18_ : u18 = false := by
        cases hu : u18 with
        | false => rfl
        | true => exact nomatch z.symm.trans ((kF hu).2.2.2.2.2.2.2.2.1)
      have H_kB := hide kB
      have H_bx := hide bx
      have H_bY := hide bY
      have H_kA := hide kA
      have H_kZ := hide kZ
      have H_c2 := hide c2
      have H_c3 := hide c3
      have H_c4 := hide c4
      have H_c6 := hide c6
      have H_c7 := hide c7
      have H_c10 := hide c10
      have H_c11 := hide c11
      have H_c12 := hide c12
      have H_c14 := hide c14
      have H_c15 := hide c15
      have H_c16 := hide c16
      have H_kF := hide kF
      clear kB bx bY kA kZ c2 c3 c4 c6 c7 c10 c11 c12 c14 c15 c16 kF
      subst z18_
      subst z
      clear h0 hd
      rw [if_pos (by rfl)]
      go_simp
      exact unhide hK _ _ ⟨u0, u1, u2, u3, u4, u5, u6, u7, true, u9, u10, u11, u12, u13, u14, u15, u16, u17, false, rx, ry, q, rfl, rfl, unhide H_kB, unhide H_bx, unhide H_bY, unhide H_kA, (fun h => nomatch h), unhide H_c2, unhide H_c3, unhide H_c4, unhide H_c6, unhide H_c7, (fun h => ⟨rfl, (unhide H_c10 h).2⟩), unhide H_c11, unhide H_c12, unhide H_c14, unhide H_c15, unhide H_c16, (fun h => nomatch h)⟩
    · intro h0 hd K hK
      have z : u9 = false := h0
      have z18_ : u18 = false := by
        cases hu : u18 with
        | false => rfl
        | true => exact nomatch z.symm.trans ((kF hu).2.2.2.2.2.2.2.2.2.1)
      have H_kB := hide kB
      have H_bx := hide bx
      have H_bY := hide bY
      have H_kA := hide kA
      have H_kZ := hide kZ
      have H_c2 := hide c2
      have H_c3 := hide c3
      have H_c4 := hide c4
      have H_c6 := hide c6
      have H_c7 := hide c7
      have H_c10 := hide c10
      have H_c11 := hide c11
      have H_c12 := hide c12
      have H_c14 := hide c14
      have H_c15 := hide c15
      have H_c16 := hide c16
      have H_kF := hide kF
      clear kB bx bY kA kZ c2 c3 c4 c6 c7 c10 c11 c12 c14 c15 c16 kF
      subst z18_
      subst z
      clear h0 hd
      rw [if_pos (by rfl)]
      go_simp
      exact unhide hK _ _ ⟨u0, u1, u2, u3, u4, u5, u6, u7, u8, true, u10, u11, u12, u13, u14, u15, u16, u17, false, rx, ry, q, rfl, rfl, unhide H_kB, unhide H_bx, unhide H_bY, unhide H_kA, (fun h => nomatch h), unhide H_c2, unhide H_c3, unhide H_c4, unhide H_c6, unhide H_c7, (fun h => ⟨(unhide H_c10 h).1, rfl⟩), unhide H_c11, unhide H_c12, unhide H_c14, unhide H_c15, unhide H_c16, (fun h => nomatch h)⟩
    · intro h0 hd K hK
      have z : u10 = false := h0
      have z18_ : u18 = false := by
        cases hu : u18 with
        | false => rfl
        | true => exact nomatch z.symm.trans ((kF hu).2.2.2.2.2.2.2.2.2.2.1)
      have zd : u8 = true ∧ u9 = true := by
        simp [Region.binds] at hd
        simp [hd]
      have H_kB := hide kB
      have H_bx := hide bx
      have H_bY := hide bY
      have H_kA := hide kA
      have H_kZ := hide kZ
      have H_c2 := hide c2
      have H_c3 := hide c3
      have H_c4 := hide c4
      have H_c6 := hide c6
      have H_c7 := hide c7
      have H_c10 := hide c10
      have H_c11 := hide c11
      have H_c12 := hide c12
      have H_c14 := hide c14
      have H_c15 := hide c15
      have H_c16 := hide c16
      have H_kF := hide kF
      clear kB bx bY kA kZ c2 c3 c4 c6 c7 c10 c11 c12 c14 c15 c16 kF
      obtain ⟨rfl, rfl⟩ := zd
      subst z18_
      subst z
      clear h0 hd
      rw [if_pos (by rfl)]
      go_simp
      exact unhide hK _ _ ⟨u0, u1, u2, u3, u4, u5, u6, u7, true, true, true, u11, u12, u13, u14, u15, u16, u17, false, rx, ry, q, rfl, rfl, unhide H_kB, unhide H_bx, unhide H_bY, unhide H_kA, (fun h => nomatch h), unhide H_c2, unhide H_c3, unhide H_c4, unhide H_c6, unhide H_c7, (fun _ => ⟨rfl, rfl⟩), (fun h => rfl), unhide H_c12, unhide H_c14, unhide H_c15, unhide H_c16, (fun h => nomatch h)⟩
    · intro h0 hd K hK
      have z : u11 = false := h0
      have z18_ : u18 = false := by
        cases hu : u18 with
        | false => rfl
        | true => exact nomatch z.symm.trans ((kF hu).2.2.2.2.2.2.2.2.2.2.2.1)
      have zd : u10 = true := by
        simp [Region.binds] at hd
        simp [hd]
      have H_kB := hide kB
      have H_bx := hide bx
      have H_bY := hide bY
      have H_kA := hide kA
      have H_kZ := hide kZ
      have H_c2 := hide c2
      have H_c3 := hide c3
      have H_c4 := hide c4
      have H_c6 := hide c6
      have H_c7 := hide c7
      have H_c10 := hide c10
      have H_c11 := hide c11
      have H_c12 := hide c12
      have H_c14 := hide c14
      have H_c15 := hide c15
      have H_c16 := hide c16
      have H_kF := hide kF
      clear kB bx bY kA kZ c2 c3 c4 c6 c7 c10 c11 c12 c14 c15 c16 kF
      obtain ⟨rfl⟩ := zd
      subst z18_
      subst z
      clear h0 hd
      rw [if_pos (by rfl)]
      go_simp
      exact unhide hK _ _ ⟨u0, u1, u2, u3, u4, u5, u6, u7, u8, u9, true, true, u12, u13, u14, u15, u16, u17, false, rx, ry, q, rfl, rfl, unhide H_kB, unhide H_bx, unhide H_bY, unhide H_kA, (fun h => nomatch h), unhide H_c2, unhide H_c3, unhide H_c4, unhide H_c6, unhide H_c7, unhide H_c10, (fun _ => rfl), (fun h => rfl), unhide H_c14, unhide H_c15, unhide H_c16, (fun h => nomatch h)⟩
    · intro h0 hd K hK
      have z : u12 = false := h0
      have z18_ : u18 = false := by
        cases hu : u18 with
        | false => rfl
        | true => exact nomatch z.symm.trans ((kF hu).2.2.2.2.2.2.2.2.2.2.2.2.1)
      have zd : u11 = true := by
        simp [Region.binds] at hd
        simp [hd]
      have H_kB := hide kB
      have H_bx := hide bx
      have H_bY := hide bY
      have H_kA := hide kA
      have H_kZ := hide kZ
      have H_c2 := hide c2
      have H_c3 := hide c3
      have H_c4 := hide c4
      have H_c6 := hide c6
      have H_c7 := hide c7
      have H_c10 := hide c10
      have H_c11 := hide c11
      have H_c12 := hide c12
      have H_c14 := hide c14
      have H_c15 := hide c15
      have H_c16 := hide c16
      have H_kF := hide kF
      clear kB bx bY kA kZ c2 c3 c4 c6 c7 c10 c11 c12 c14 c15 c16 kF
      obtain ⟨rfl⟩ := zd
      subst z18_
      subst z
      clear h0 hd
      rw [if_pos (by rfl)]
      have cc := keep1 (unhide H_kB) cy
      go_simp
      exact unhide hK _ _ ⟨u0, u1, u2, u3, u4, u5, u6, u7, u8, u9, u10, true, true, u13, u14, u15, u16, u17, false, rx, ry, q, rfl, rfl, unhide H_kB, unhide H_bx, unhide H_bY, unhide H_kA, (fun h => nomatch h), unhide H_c2, unhide H_c3, unhide H_c4, unhide H_c6, unhide H_c7, unhide H_c10, unhide H_c11, (fun _ => rfl), unhide H_c14, (fun h => ⟨rfl, (unhide H_c15 h).2⟩), unhide H_c16, (fun h => nomatch h)⟩
    · intro h0 hd K hK
      have z : u13 = false := h0
      have z18_ : u18 = false := by
        cases hu : u18 with
        | false => rfl
        | true => exact nomatch z.symm.trans ((kF hu).2.2.2.2.2.2.2.2.2.2.2.2.2.1)
      have H_kB := hide kB
      have H_bx := hide bx
      have H_bY := hide bY
      have H_kA := hide kA
      have H_kZ := hide kZ
      have H_c2 := hide c2
      have H_c3 := hide c3
      have H_c4 := hide c4
      have H_c6 := hide c6
      have H_c7 := hide c7
      have H_c10 := hide c10
      have H_c11 := hide c11
      have H_c12 := hide c12
      have H_c14 := hide c14
      have H_c15 := hide c15
      have H_c16 := hide c16
      have H_kF := hide kF
      clear kB bx bY kA kZ c2 c3 c4 c6 c7 c10 c11 c12 c14 c15 c16 kF
      subst z18_
      subst z
      clear h0 hd
      rw [if_pos (by rfl)]
      go_simp
      exact unhide hK _ _ ⟨u0, u1, u2, u3, u4, u5, u6, u7, u8, u9, u10, u11, u12, true, u14, u15, u16, u17, false, rx, ry, q, rfl, rfl, unhide H_kB, unhide H_bx, unhide H_bY, unhide H_kA, (fun h => nomatch h), unhide H_c2, unhide H_c3, unhide H_c4, unhide H_c6, unhide H_c7, unhide H_c10, unhide H_c11, unhide H_c12, (fun h => ⟨rfl, (unhide H_c14 h).2⟩), unhide H_c15, unhide H_c16, (fun h => nomatch h)⟩
    · intro h0 hd K hK
      have z : u14 = false := h0
      have z18_ : u18 = false := by
        cases hu : u18 with
        | false => rfl
        | true => exact nomatch z.symm.trans ((kF hu).2.2.2.2.2.2.2.2.2.2.2.2.2.2.1)
      have z15_ : u15 = false := by
        cases hu : u15 with
        | false => rfl
        | true => exact nomatch z.symm.trans ((c15 hu).2)
      have z16_ : u16 = false := by
        cases hu : u16 with
        | false => rfl
        | true => exact nomatch z.symm.trans ((c15 (c16 hu).2).2)
      have zd : u13 = true ∧ u6 = true := by
        simp [Region.binds] at hd
        simp [hd]
      have H_kB := hide kB
      have H_bx := hide bx
      have H_bY := hide bY
      have H_kA := hide kA
      have H_kZ := hide kZ
      have H_c2 := hide c2
      have H_c3 := hide c3
      have H_c4 := hide c4
      have H_c6 := hide c6
      have H_c7 := hide c7
      have H_c10 := hide c10
      have H_c11 := hide c11
      have H_c12 := hide c12
      have H_c14 := hide c14
      have H_c15 := hide c15
      have H_c16 := hide c16
      have H_kF := hide kF
      clear kB bx bY kA kZ c2 c3 c4 c6 c7 c10 c11 c12 c14 c15 c16 kF
      obtain ⟨rfl, rfl⟩ := zd
      subst z18_
      subst z15_
      subst z16_
      subst z
      clear h0 hd
      rw [if_pos (by rfl)]
      go_simp
      refine (unhide HAT _ (unhide H_kB) 2 (by omega)).mono ?_
      rintro e w8 ⟨r, rfl, hr1, hr2, hb8⟩
      exact unhide hK _ _ ⟨u0, u1, u2, u3, u4, u5, true, u7, u8, u9, u10, u11, u12, true, true, false, false, u17, false, rx, r, q, rfl, rfl, (bc (unhide H_kB) hb8), unhide H_bx, (fun _ => ⟨hr1, hr2⟩), (fun h1 h2 => ⟨(unhide H_kA h1 rfl).1, (hb8.block _ (Array.getElem?_eq_some_iff.1 (unhide H_kA h1 rfl).2).1).trans (unhide H_kA h1 rfl).2⟩), (fun h => nomatch h), unhide H_c2, unhide H_c3, unhide H_c4, unhide H_c6, (fun h => ⟨(unhide H_c7 h).1, rfl⟩), unhide H_c10, unhide H_c11, unhide H_c12, (fun _ => ⟨rfl, rfl⟩), (fun h => nomatch h), (fun h => nomatch h), (fun h => nomatch h)⟩
    · intro h0 hd K hK
      have z : u15 = false := h0
      have z18_ : u18 = false := by
        cases hu : u18 with
        | false => rfl
        | true => exact nomatch z.symm.trans ((kF hu).2.2.2.2.2.2.2.2.2.2.2.2.2.2.2.1)
      have zd : u12 = true ∧ u14 = true := by
        simp [Region.binds] at hd
        simp [hd]
      have H_kB := hide kB
      have H_bx := hide bx
      have H_bY := hide bY
      have H_kA := hide kA
      have H_kZ := hide kZ
      have H_c2 := hide c2
      have H_c3 := hide c3
      have H_c4 := hide c4
      have H_c6 := hide c6
      have H_c7 := hide c7
      have H_c10 := hide c10
      have H_c11 := hide c11
      have H_c12 := hide c12
      have H_c14 := hide c14
      have H_c15 := hide c15
      have H_c16 := hide c16
      have H_kF := hide kF
      clear kB bx bY kA kZ c2 c3 c4 c6 c7 c10 c11 c12 c14 c15 c16 kF
      obtain ⟨rfl, rfl⟩ := zd
      subst z18_
      subst z
      clear h0 hd
      rw [if_pos (by rfl)]
      have hb := unhide H_bY rfl
      go_simp
      try rw [wrap_i (show -9223372036854775808 ≤ y + ry by omega) (show y + ry ≤ 9223372036854775807 by omega)]
      exact unhide hK _ _ ⟨u0, u1, u2, u3, u4, u5, u6, u7, u8, u9, u10, u11, true, u13, true, true, u16, u17, false, rx, ry, q, rfl, rfl, unhide H_kB, unhide H_bx, unhide H_bY, unhide H_kA, (fun h => nomatch h), unhide H_c2, unhide H_c3, unhide H_c4, unhide H_c6, unhide H_c7, unhide H_c10, unhide H_c11, unhide H_c12, unhide H_c14, (fun _ => ⟨rfl, rfl⟩), (fun h => ⟨(unhide H_c16 h).1, rfl⟩), (fun h => nomatch h)⟩
    · intro h0 hd K hK
      have z : u16 = false := h0
      have z18_ : u18 = false := by
        cases hu : u18 with
        | false => rfl
        | true => exact nomatch z.symm.trans ((kF hu).2.2.2.2.2.2.2.2.2.2.2.2.2.2.2.2.1)
      have zd : u7 = true ∧ u15 = true := by
        simp [Region.binds] at hd
        simp [hd]
      have H_kB := hide kB
      have H_bx := hide bx
      have H_bY := hide bY
      have H_kA := hide kA
      have H_kZ := hide kZ
      have H_c2 := hide c2
      have H_c3 := hide c3
      have H_c4 := hide c4
      have H_c6 := hide c6
      have H_c7 := hide c7
      have H_c10 := hide c10
      have H_c11 := hide c11
      have H_c12 := hide c12
      have H_c14 := hide c14
      have H_c15 := hide c15
      have H_c16 := hide c16
      have H_kF := hide kF
      clear kB bx bY kA kZ c2 c3 c4 c6 c7 c10 c11 c12 c14 c15 c16 kF
      obtain ⟨rfl, rfl⟩ := zd
      subst z18_
      subst z
      clear h0 hd
      rw [if_pos (by rfl)]
      go_simp
      exact unhide hK _ _ ⟨u0, u1, u2, u3, u4, u5, u6, true, u8, u9, u10, u11, u12, u13, u14, true, true, u17, false, rx, ry, q, rfl, rfl, unhide H_kB, unhide H_bx, unhide H_bY, unhide H_kA, (fun h => nomatch h), unhide H_c2, unhide H_c3, unhide H_c4, unhide H_c6, unhide H_c7, unhide H_c10, unhide H_c11, unhide H_c12, unhide H_c14, unhide H_c15, (fun _ => ⟨rfl, rfl⟩), (fun h => nomatch h)⟩
    · intro h0 hd K hK
      have z : u17 = false := h0
      have z18_ : u18 = false := by
        cases hu : u18 with
        | false => rfl
        | true => exact nomatch z.symm.trans ((kF hu).2.2.2.2.2.2.2.2.2.2.2.2.2.2.2.2.2)
      have H_kB := hide kB
      have H_bx := hide bx
      have H_bY := hide bY
      have H_kA := hide kA
      have H_kZ := hide kZ
      have H_c2 := hide c2
      have H_c3 := hide c3
      have H_c4 := hide c4
      have H_c6 := hide c6
      have H_c7 := hide c7
      have H_c10 := hide c10
      have H_c11 := hide c11
      have H_c12 := hide c12
      have H_c14 := hide c14
      have H_c15 := hide c15
      have H_c16 := hide c16
      have H_kF := hide kF
      clear kB bx bY kA kZ c2 c3 c4 c6 c7 c10 c11 c12 c14 c15 c16 kF
      subst z18_
      subst z
      clear h0 hd
      rw [if_pos (by rfl)]
      go_simp
      exact unhide hK _ _ ⟨u0, u1, u2, u3, u4, u5, u6, u7, u8, u9, u10, u11, u12, u13, u14, u15, u16, true, false, rx, ry, W.heap.size, rfl, rfl, (ba (unhide H_kB) _), unhide H_bx, unhide H_bY, (fun _ _ => ⟨(unhide H_kB).size, heap_alloc_new W _⟩), (fun h => nomatch h), unhide H_c2, unhide H_c3, unhide H_c4, unhide H_c6, unhide H_c7, unhide H_c10, unhide H_c11, unhide H_c12, unhide H_c14, unhide H_c15, unhide H_c16, (fun h => nomatch h)⟩
    · intro h0 hd K hK
      have z : u18 = false := h0
      have zd : u16 = true ∧ u17 = true ∧ u0 = true ∧ u1 = true ∧ u2 = true ∧ u3 = true ∧ u4 = true ∧ u5 = true ∧ u6 = true ∧ u7 = true ∧ u8 = true ∧ u9 = true ∧ u10 = true ∧ u11 = true ∧ u12 = true ∧ u13 = true ∧ u14 = true ∧ u15 = true := by
        simp [Region.binds] at hd
        simp [hd]
      have H_kB := hide kB
      have H_bx := hide bx
      have H_bY := hide bY
      have H_kA := hide kA
      have H_kZ := hide kZ
      have H_c2 := hide c2
      have H_c3 := hide c3
      have H_c4 := hide c4
      have H_c6 := hide c6
      have H_c7 := hide c7
      have H_c10 := hide c10
      have H_c11 := hide c11
      have H_c12 := hide c12
      have H_c14 := hide c14
      have H_c15 := hide c15
      have H_c16 := hide c16
      have H_kF := hide kF
      clear kB bx bY kA kZ c2 c3 c4 c6 c7 c10 c11 c12 c14 c15 c16 kF
      obtain ⟨rfl, rfl, rfl, rfl, rfl, rfl, rfl, rfl, rfl, rfl, rfl, rfl, rfl, rfl, rfl, rfl, rfl, rfl⟩ := zd
      subst z
      clear h0 hd
      rw [if_pos (by rfl)]
      have ca := (unhide H_kA rfl rfl)
      have cc0 := pair_c0 ca.2
      have cc1 := pair_c1 ca.2
      have cf0 := pair_f ca.2 0
      have cf1 := pair_f ca.2 1
      have clt := cell_lt cc0
      have HCA := hide ca
      clear ca
      go_simp
      exact unhide hK _ _ ⟨true, true, true, true, true, true, true, true, true, true, true, true, true, true, true, true, true, true, true, rx, ry, q, rfl, rfl, (Below.setCell (Below.setCell (unhide H_kB) (unhide HCA).1 _) (unhide HCA).1 _), unhide H_bx, unhide H_bY, (fun _ h => nomatch h), (fun _ => ⟨(unhide HCA).1, pair_set (unhide HCA).2⟩), (fun _ => ⟨rfl, rfl⟩), (fun _ => rfl), (fun _ => rfl), (fun _ => rfl), (fun _ => ⟨rfl, rfl⟩), (fun _ => ⟨rfl, rfl⟩), (fun _ => rfl), (fun _ => rfl), (fun _ => ⟨rfl, rfl⟩), (fun _ => ⟨rfl, rfl⟩), (fun _ => ⟨rfl, rfl⟩), (fun _ => ⟨rfl, rfl, rfl, rfl, rfl, rfl, rfl, rfl, rfl, rfl, rfl, rfl, rfl, rfl, rfl, rfl, rfl, rfl⟩)⟩
  case hend =>
    rintro Lb A W ⟨u0, u1, u2, u3, u4, u5, u6, u7, u8, u9, u10, u11, u12, u13, u14, u15, u16, u17, u18, rx, ry, q, rfl, rfl, kB, bx, bY, kA, kZ, c2, c3, c4, c6, c7, c10, c11, c12, c14, c15, c16, kF⟩ hL
    have hl : u0 = true ∧ u1 = true ∧ u2 = true ∧ u3 = true ∧ u4 = true ∧ u5 = true ∧ u6 = true ∧ u7 = true ∧ u8 = true ∧ u9 = true ∧ u10 = true ∧ u11 = true ∧ u12 = true ∧ u13 = true ∧ u14 = true ∧ u15 = true ∧ u16 = true ∧ u17 = true ∧ u18 = true := by
      have h2 := congrArg Array.toList hL
      simpa [List.replicate] using h2
    obtain ⟨rfl, rfl, rfl, rfl, rfl, rfl, rfl, rfl, rfl, rfl, rfl, rfl, rfl, rfl, rfl, rfl, rfl, rfl, rfl⟩ := hl
    exact unhide HQ _ _ _ _ _ _ _ _ _ _ _ _ _ _ _ _ _ _ _ _ _ (bx rfl) (bY rfl) kB (kZ rfl).1 (kZ rfl).2
end Go.Proofs.Ytchdmigeopmacaa
