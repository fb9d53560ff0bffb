/-
  Two statements of the law of Mill, walked alone: arguments are made, and milled.
-/
import Derived.Test.YtbjljofgpbecbaaMvRows
import Derived.Test.YtbjljofgpbecbaaInv2
namespace Go.Proofs.Ytbjljofgpbecbaa
open Go.ChangeShapes Go.WideShapes Go.ChangeAt Go.RowKit
set_option linter.unusedVariables false
set_option linter.unusedSimpArgs false

theorem own_u {v : Value} {u : Option Addr} {n c b : Nat} (h : (Value.slice u n c).ownBlock = some b) : ∃ a, u = some a ∧ a.block = b := by
  cases u with
  | none => cases h
  | some a => exact ⟨a, rfl, by simpa [Value.ownBlock] using h⟩
noncomputable def reg6 (id : Nat) : Go.Code := match Try.f6.body with | some c => (regOf id c).getD .skip | none => .skip

set_option maxHeartbeats 4000000 in
set_option maxRecDepth 100000 in
theorem ml11 {s0 s1 s6 s7 s8 s9 s10 s11 s12 s13 s14 s15 s16 s17 s18 s19 s20 s21 s22 s23 s24 s25 s26 s27 s28 s29 s30 s31 s32 s33 s34 s35 s36 s37 s38 s39 s40 s41 s42 s43 s44 s45 s46 s47 s48 s49 s50 s51 s52 s53 s54 s55 s56 s57 s58 s59 s60 s61 s62 s63 s64 s65 s66 s67 s68 s69 s70 s71 s72 s73 s74 s75 s76 s77 s78 s79 s80 s81 s82 s83 s84 s85 s86 s87 s88 s89 s90 s91 s92 s93 s94 s95 s96 s97 s98 s99 s100 s101 s102 s103 s104 s105 s106 s107 s108 s109 s110 s111 s112 s113 s114 s115 s116 s117 s118 s119 : Value} {Ws Hs Wp Hp R E bd Wr Hr cu ai de : Int} {us up um : Option Addr} {ns cs np cp mm cm m b4 b5 : Nat} {S T F : List Int} {ms : List Mve} {V : World} {K_ : Act → World → Prop}
    (HS : Hid (vb V b4 42 [.int .i64 Ws, .int .i64 Hs, .slice us ns cs])) (HP : Hid (vb V b5 42 [.int .i64 Wp, .int .i64 Hp, .slice up np cp]))
    (HTS : Hid (∀ X, Below V.heap.size V X → Calls Try.prog 21 #[.agg #[.int .i64 Ws, .int .i64 Hs, .slice us ns cs]] X fun e w' => (∃ g, e = .returned (.agg #[.int .i64 Ws, .int .i64 Hs, .slice (some ⟨g, 0, none⟩) ns ns]) ∧ X.heap.size ≤ g ∧ iblk w' g 3 S) ∧ Below X.heap.size X w'))
    (HTP : Hid (∀ X, Below V.heap.size V X → Calls Try.prog 21 #[.agg #[.int .i64 Wp, .int .i64 Hp, .slice up np cp]] X fun e w' => (∃ g, e = .returned (.agg #[.int .i64 Wp, .int .i64 Hp, .slice (some ⟨g, 0, none⟩) np np]) ∧ X.heap.size ≤ g ∧ iblk w' g 3 T) ∧ Below X.heap.size X w'))
    (HTM : Hid (∀ X, Below V.heap.size V X → Calls Try.prog 25 #[.slice um mm cm] X fun e w' => (∃ g, e = .returned (.slice (some ⟨g, 0, none⟩) mm mm) ∧ X.heap.size ≤ g ∧ vb w' g 36 (flat4 ms)) ∧ Below X.heap.size X w'))
    (HM : Hid (∀ (g1 g2 g3 : Nat) (X : World), iblk X g1 3 S → iblk X g2 3 T → vb X g3 36 (flat4 ms) → Calls Try.prog 12 #[.agg #[.int .i64 Ws, .int .i64 Hs, .slice (some ⟨g1, 0, none⟩) ns ns], .agg #[.int .i64 Wp, .int .i64 Hp, .slice (some ⟨g2, 0, none⟩) np np], .int .i64 R, .slice (some ⟨g3, 0, none⟩) mm mm] X fun e w' => (∃ uv cv, e = .returned (.agg #[.int .i64 E, .int .i64 bd, .int .i64 Wr, .int .i64 Hr, .slice uv m cv, .int .i64 cu, .int .i64 ai, .int .i64 de]) ∧ Row w' X.heap.size 3 1 (.slice uv m cv) m F) ∧ Below X.heap.size X w'))
    (hQ : ∀ (y34 y35 y36 y37 y38 y39 y40 y41 : Value) (uv : Option Addr) (cv M : Nat) (W' : World), Below V.heap.size V W' → Row W' V.heap.size 3 1 (.slice uv m cv) m F → V.heap.size ≤ M → (∀ a, uv = some a → a.block ≠ M) → vb W' M 31 [.int .i64 E, .int .i64 bd, .int .i64 Wr, .int .i64 Hr, .slice uv m cv, .int .i64 cu, .int .i64 ai, .int .i64 de] → K_ { tmps := #[s0, s1, .int .i64 (R), .slice um mm cm, .pointer (some ⟨b4, 0, none⟩), .pointer (some ⟨b5, 0, none⟩), s6, s7, s8, s9, .pointer (some ⟨M, 0, none⟩), s11, s12, s13, s14, s15, s16, s17, s18, s19, s20, s21, s22, s23, s24, s25, s26, s27, s28, s29, s30, s31, s32, s33, y34, y35, y36, y37, y38, y39, y40, y41, s42, s43, s44, s45, s46, s47, s48, s49, s50, s51, s52, s53, s54, s55, s56, s57, s58, s59, s60, s61, s62, s63, s64, s65, s66, s67, s68, s69, s70, s71, s72, s73, s74, s75, s76, s77, s78, s79, s80, s81, s82, s83, s84, s85, s86, s87, s88, s89, s90, s91, s92, s93, s94, s95, s96, s97, s98, s99, s100, s101, s102, s103, s104, s105, s106, s107, s108, s109, s110, s111, s112, s113, s114, s115, s116, s117, s118, s119], defers := [] } W') :
    Go.Code.wp Try.prog (reg6 11) (Only K_) { tmps := #[s0, s1, .int .i64 (R), .slice um mm cm, .pointer (some ⟨b4, 0, none⟩), .pointer (some ⟨b5, 0, none⟩), s6, s7, s8, s9, s10, s11, s12, s13, s14, s15, s16, s17, s18, s19, s20, s21, s22, s23, s24, s25, s26, s27, s28, s29, s30, s31, s32, s33, s34, s35, s36, s37, s38, s39, s40, s41, s42, s43, s44, s45, s46, s47, s48, s49, s50, s51, s52, s53, s54, s55, s56, s57, s58, s59, s60, s61, s62, s63, s64, s65, s66, s67, s68, s69, s70, s71, s72, s73, s74, s75, s76, s77, s78, s79, s80, s81, s82, s83, s84, s85, s86, s87, s88, s89, s90, s91, s92, s93, s94, s95, s96, s97, s98, s99, s100, s101, s102, s103, s104, s105, s106, s107, s108, s109, s110, s111, s112, s113, s114, s115, s116, s117, s118, s119], defers := [] } V := by
  have HQ := hide hQ
  clear hQ
  conv => arg 2; whnf
  refine wp_region_inv2 (fun Lb A W => ∃ (u0 u1 u2 u3 u4 u5 u6 u7 u8 u9 : Bool) (g1 : Nat) (g2 : Nat) (g3 : Nat) (uv : Option Addr) (cv : Nat) (M : Nat), Lb = #[u0, u1, u2, u3, u4, u5, u6, u7, u8, u9] ∧ A = ({ tmps := #[s0, s1, .int .i64 (R), .slice um mm cm, .pointer (some ⟨b4, 0, none⟩), .pointer (some ⟨b5, 0, none⟩), s6, s7, s8, s9, (bif u8 then .pointer (some ⟨M, 0, none⟩) else s10), s11, s12, s13, s14, s15, s16, s17, s18, s19, s20, s21, s22, s23, s24, s25, s26, s27, s28, s29, s30, s31, s32, s33, (bif u0 then .agg #[.int .i64 Ws, .int .i64 Hs, .slice us ns cs] else s34), (bif u1 then .agg #[.int .i64 Ws, .int .i64 Hs, .slice (some ⟨g1, 0, none⟩) ns ns] else s35), (bif u2 then .agg #[.int .i64 Wp, .int .i64 Hp, .slice up np cp] else s36), (bif u3 then .agg #[.int .i64 Wp, .int .i64 Hp, .slice (some ⟨g2, 0, none⟩) np np] else s37), (bif u4 then .int .i64 (R) else s38), (bif u5 then .slice um mm cm else s39), (bif u6 then .slice (some ⟨g3, 0, none⟩) mm mm else s40), (bif u7 then .agg #[.int .i64 E, .int .i64 bd, .int .i64 Wr, .int .i64 Hr, .slice uv m cv, .int .i64 cu, .int .i64 ai, .int .i64 de] else s41), s42, s43, s44, s45, s46, s47, s48, s49, s50, s51, s52, s53, s54, s55, s56, s57, s58, s59, s60, s61, s62, s63, s64, s65, s66, s67, s68, s69, s70, s71, s72, s73, s74, s75, s76, s77, s78, s79, s80, s81, s82, s83, s84, s85, s86, s87, s88, s89, s90, s91, s92, s93, s94, s95, s96, s97, s98, s99, s100, s101, s102, s103, s104, s105, s106, s107, s108, s109, s110, s111, s112, s113, s114, s115, s116, s117, s118, s119], defers := [] } : Act) ∧ Below V.heap.size V W ∧ (u1 = true → u9 = false → iblk W g1 3 S) ∧ (u3 = true → u9 = false → iblk W g2 3 T) ∧ (u6 = true → u9 = false → vb W g3 36 (flat4 ms)) ∧ (u7 = true → Row W V.heap.size 3 1 (.slice uv m cv) m F) ∧ (u8 = true → V.heap.size ≤ M ∧ M < W.heap.size ∧ (u9 = false → vb W M 31 [.int .i64 0, .int .i64 0, .int .i64 0, .int .i64 0, .slice none 0 0, .int .i64 0, .int .i64 0, .int .i64 0])) ∧ (u7 = true → u8 = true → ∀ a, uv = some a → a.block ≠ M) ∧ (u9 = true → vb W M 31 [.int .i64 E, .int .i64 bd, .int .i64 Wr, .int .i64 Hr, .slice uv m cv, .int .i64 cu, .int .i64 ai, .int .i64 de]) ∧ (u1 = true → u0 = true) ∧ (u3 = true → u2 = true) ∧ (u6 = true → u5 = true) ∧ (u7 = true → u1 = true ∧ u3 = true ∧ u4 = true ∧ u6 = true) ∧ (u9 = true → u0 = true ∧ u1 = true ∧ u2 = true ∧ u3 = true ∧ u4 = true ∧ u5 = true ∧ u6 = true ∧ u7 = true ∧ u8 = true)) (by kernel_rfl) (by kernel_rfl) ?h0 ?hstep ?hend
  case h0 =>
    exact ⟨false, false, false, false, false, false, false, false, false, false, 0, 0, 0, none, 0, 0, rfl, rfl, Below.drew (Below.refl _ _), (fun h => nomatch h), (fun h => nomatch h), (fun h => nomatch h), (fun h => nomatch h), (fun h => nomatch h), (fun h => nomatch h), (fun h => nomatch h), (fun h => nomatch h), (fun h => nomatch h), (fun h => nomatch h), (fun h => nomatch h), (fun h => nomatch h)⟩
  case hstep =>
    rintro Lb A W ⟨u0, u1, u2, u3, u4, u5, u6, u7, u8, u9, g1, g2, g3, uv, cv, M, rfl, rfl, kB, k1, k3, k6, k7, k8, kN, k9, c1, c3, c6, c7, kF⟩
    refine ⟨?_, ?_, ?_, ?_, ?_, ?_, ?_, ?_, ?_, ?_, trivial⟩
    · intro h0 hd K hK
      have z : u0 = false := h0
      have z9_ : u9 = false := by
        cases hu : u9 with
        | false => rfl
        | true => exact nomatch z.symm.trans ((kF hu).1)
      have H_kB := hide kB
      have H_k1 := hide k1
      have H_k3 := hide k3
      have H_k6 := hide k6
      have H_k7 := hide k7
      have H_k8 := hide k8
      have H_kN := hide kN
      have H_k9 := hide k9
      have H_c1 := hide c1
      have H_c3 := hide c3
      have H_c6 := hide c6
      have H_c7 := hide c7
      have H_kF := hide kF
      clear kB k1 k3 k6 k7 k8 kN k9 c1 c3 c6 c7 kF
      subst z9_
      subst z
      clear h0 hd
      rw [if_pos (by rfl)]
      have v1 := (unhide HS).bel (unhide H_kB)
      have q0 := v1.cell (m := 0) rfl
      have q1 := v1.cell (m := 1) rfl
      have q2 := v1.cell (m := 2) rfl
      clear v1
      go_simp
      exact unhide hK _ _ ⟨true, u1, u2, u3, u4, u5, u6, u7, u8, false, g1, g2, g3, uv, cv, M, rfl, rfl, unhide H_kB, unhide H_k1, unhide H_k3, unhide H_k6, unhide H_k7, unhide H_k8, unhide H_kN, (fun h => nomatch h), (fun h => rfl), unhide H_c3, unhide H_c6, unhide H_c7, (fun h => nomatch h)⟩
    · intro h0 hd K hK
      have z : u1 = false := h0
      have z9_ : u9 = false := by
        cases hu : u9 with
        | false => rfl
        | true => exact nomatch z.symm.trans ((kF hu).2.1)
      have z7_ : u7 = false := by
        cases hu : u7 with
        | false => rfl
        | true => exact nomatch z.symm.trans ((c7 hu).1)
      have zd : u0 = true := by
        simp [Region.binds] at hd
        simp [hd]
      have H_kB := hide kB
      have H_k1 := hide k1
      have H_k3 := hide k3
      have H_k6 := hide k6
      have H_k7 := hide k7
      have H_k8 := hide k8
      have H_kN := hide kN
      have H_k9 := hide k9
      have H_c1 := hide c1
      have H_c3 := hide c3
      have H_c6 := hide c6
      have H_c7 := hide c7
      have H_kF := hide kF
      clear kB k1 k3 k6 k7 k8 kN k9 c1 c3 c6 c7 kF
      obtain ⟨rfl⟩ := zd
      subst z9_
      subst z7_
      subst z
      clear h0 hd
      rw [if_pos (by rfl)]
      go_simp
      refine (unhide HTS W (unhide H_kB)).mono ?_
      rintro e w8 ⟨⟨g', rfl, hg', hk'⟩, hb8⟩
      exact unhide hK _ _ ⟨true, true, u2, u3, u4, u5, u6, false, u8, false, g', g2, g3, uv, cv, M, rfl, rfl, (bc (unhide H_kB) hb8), (fun _ _ => hk'), (fun h hz => (unhide H_k3 h hz).bel hb8), (fun h hz => (unhide H_k6 h hz).bel hb8), (fun h => nomatch h), (fun h => ⟨(unhide H_k8 h).1, Nat.lt_of_lt_of_le (unhide H_k8 h).2.1 hb8.size, fun h2 => ((unhide H_k8 h).2.2 h2).bel hb8⟩), (fun h => nomatch h), (fun h => nomatch h), (fun _ => rfl), unhide H_c3, unhide H_c6, (fun h => nomatch h), (fun h => nomatch h)⟩
    · intro h0 hd K hK
      have z : u2 = false := h0
      have z9_ : u9 = false := by
        cases hu : u9 with
        | false => rfl
        | true => exact nomatch z.symm.trans ((kF hu).2.2.1)
      have H_kB := hide kB
      have H_k1 := hide k1
      have H_k3 := hide k3
      have H_k6 := hide k6
      have H_k7 := hide k7
      have H_k8 := hide k8
      have H_kN := hide kN
      have H_k9 := hide k9
      have H_c1 := hide c1
      have H_c3 := hide c3
      have H_c6 := hide c6
      have H_c7 := hide c7
      have H_kF := hide kF
      clear kB k1 k3 k6 k7 k8 kN k9 c1 c3 c6 c7 kF
      subst z9_
      subst z
      clear h0 hd
      rw [if_pos (by rfl)]
      have v1 := (unhide HP).bel (unhide H_kB)
      have q0 := v1.cell (m := 0) rfl
      have q1 := v1.cell (m := 1) rfl
      have q2 := v1.cell (m := 2) rfl
      clear v1
      go_simp
      exact unhide hK _ _ ⟨u0, u1, true, u3, u4, u5, u6, u7, u8, false, g1, g2, g3, uv, cv, M, rfl, rfl, unhide H_kB, unhide H_k1, unhide H_k3, unhide H_k6, unhide H_k7, unhide H_k8, unhide H_kN, (fun h => nomatch h), unhide H_c1, (fun h => rfl), unhide H_c6, unhide H_c7, (fun h => nomatch h)⟩
    · intro h0 hd K hK
      have z : u3 = false := h0
      have z9_ : u9 = false := by
        cases hu : u9 with
        | false => rfl
        | true => exact nomatch z.symm.trans ((kF hu).2.2.2.1)
      have z7_ : u7 = false := by
        cases hu : u7 with
        | false => rfl
        | true => exact nomatch z.symm.trans ((c7 hu).2.1)
      have zd : u2 = true := by
        simp [Region.binds] at hd
        simp [hd]
      have H_kB := hide kB
      have H_k1 := hide k1
      have H_k3 := hide k3
      have H_k6 := hide k6
      have H_k7 := hide k7
      have H_k8 := hide k8
      have H_kN := hide kN
      have H_k9 := hide k9
      have H_c1 := hide c1
      have H_c3 := hide c3
      have H_c6 := hide c6
      have H_c7 := hide c7
      have H_kF := hide kF
      clear kB k1 k3 k6 k7 k8 kN k9 c1 c3 c6 c7 kF
      obtain ⟨rfl⟩ := zd
      subst z9_
      subst z7_
      subst z
      clear h0 hd
      rw [if_pos (by rfl)]
      go_simp
      refine (unhide HTP W (unhide H_kB)).mono ?_
      rintro e w8 ⟨⟨g', rfl, hg', hk'⟩, hb8⟩
      exact unhide hK _ _ ⟨u0, u1, true, true, u4, u5, u6, false, u8, false, g1, g', g3, uv, cv, M, rfl, rfl, (bc (unhide H_kB) hb8), (fun h hz => (unhide H_k1 h hz).bel hb8), (fun _ _ => hk'), (fun h hz => (unhide H_k6 h hz).bel hb8), (fun h => nomatch h), (fun h => ⟨(unhide H_k8 h).1, Nat.lt_of_lt_of_le (unhide H_k8 h).2.1 hb8.size, fun h2 => ((unhide H_k8 h).2.2 h2).bel hb8⟩), (fun h => nomatch h), (fun h => nomatch h), unhide H_c1, (fun _ => rfl), unhide H_c6, (fun h => nomatch h), (fun h => nomatch h)⟩
    · intro h0 hd K hK
      have z : u4 = false := h0
      have z9_ : u9 = false := by
        cases hu : u9 with
        | false => rfl
        | true => exact nomatch z.symm.trans ((kF hu).2.2.2.2.1)
      have H_kB := hide kB
      have H_k1 := hide k1
      have H_k3 := hide k3
      have H_k6 := hide k6
      have H_k7 := hide k7
      have H_k8 := hide k8
      have H_kN := hide kN
      have H_k9 := hide k9
      have H_c1 := hide c1
      have H_c3 := hide c3
      have H_c6 := hide c6
      have H_c7 := hide c7
      have H_kF := hide kF
      clear kB k1 k3 k6 k7 k8 kN k9 c1 c3 c6 c7 kF
      subst z9_
      subst z
      clear h0 hd
      rw [if_pos (by rfl)]
      go_simp
      exact unhide hK _ _ ⟨u0, u1, u2, u3, true, u5, u6, u7, u8, false, g1, g2, g3, uv, cv, M, rfl, rfl, unhide H_kB, unhide H_k1, unhide H_k3, unhide H_k6, unhide H_k7, unhide H_k8, unhide H_kN, (fun h => nomatch h), unhide H_c1, unhide H_c3, unhide H_c6, (fun h => ⟨(unhide H_c7 h).1, (unhide H_c7 h).2.1, rfl, (unhide H_c7 h).2.2.2⟩), (fun h => nomatch h)⟩
    · intro h0 hd K hK
      have z : u5 = false := h0
      have z9_ : u9 = false := by
        cases hu : u9 with
        | false => rfl
        | true => exact nomatch z.symm.trans ((kF hu).2.2.2.2.2.1)
      have H_kB := hide kB
      have H_k1 := hide k1
      have H_k3 := hide k3
      have H_k6 := hide k6
      have H_k7 := hide k7
      have H_k8 := hide k8
      have H_kN := hide kN
      have H_k9 := hide k9
      have H_c1 := hide c1
      have H_c3 := hide c3
      have H_c6 := hide c6
      have H_c7 := hide c7
      have H_kF := hide kF
      clear kB k1 k3 k6 k7 k8 kN k9 c1 c3 c6 c7 kF
      subst z9_
      subst z
      clear h0 hd
      rw [if_pos (by rfl)]
      go_simp
      exact unhide hK _ _ ⟨u0, u1, u2, u3, u4, true, u6, u7, u8, false, g1, g2, g3, uv, cv, M, rfl, rfl, unhide H_kB, unhide H_k1, unhide H_k3, unhide H_k6, unhide H_k7, unhide H_k8, unhide H_kN, (fun h => nomatch h), unhide H_c1, unhide H_c3, (fun h => rfl), unhide H_c7, (fun h => nomatch h)⟩
    · intro h0 hd K hK
      have z : u6 = false := h0
      have z9_ : u9 = false := by
        cases hu : u9 with
        | false => rfl
        | true => exact nomatch z.symm.trans ((kF hu).2.2.2.2.2.2.1)
      have z7_ : u7 = false := by
        cases hu : u7 with
        | false => rfl
        | true => exact nomatch z.symm.trans ((c7 hu).2.2.2)
      have zd : u5 = true := by
        simp [Region.binds] at hd
        simp [hd]
      have H_kB := hide kB
      have H_k1 := hide k1
      have H_k3 := hide k3
      have H_k6 := hide k6
      have H_k7 := hide k7
      have H_k8 := hide k8
      have H_kN := hide kN
      have H_k9 := hide k9
      have H_c1 := hide c1
      have H_c3 := hide c3
      have H_c6 := hide c6
      have H_c7 := hide c7
      have H_kF := hide kF
      clear kB k1 k3 k6 k7 k8 kN k9 c1 c3 c6 c7 kF
      obtain ⟨rfl⟩ := zd
      subst z9_
      subst z7_
      subst z
      clear h0 hd
      rw [if_pos (by rfl)]
      go_simp
      refine (unhide HTM W (unhide H_kB)).mono ?_
      rintro e w8 ⟨⟨g', rfl, hg', hk'⟩, hb8⟩
      exact unhide hK _ _ ⟨u0, u1, u2, u3, u4, true, true, false, u8, false, g1, g2, g', uv, cv, M, rfl, rfl, (bc (unhide H_kB) hb8), (fun h hz => (unhide H_k1 h hz).bel hb8), (fun h hz => (unhide H_k3 h hz).bel hb8), (fun _ _ => hk'), (fun h => nomatch h), (fun h => ⟨(unhide H_k8 h).1, Nat.lt_of_lt_of_le (unhide H_k8 h).2.1 hb8.size, fun h2 => ((unhide H_k8 h).2.2 h2).bel hb8⟩), (fun h => nomatch h), (fun h => nomatch h), unhide H_c1, unhide H_c3, (fun _ => rfl), (fun h => nomatch h), (fun h => nomatch h)⟩
    · intro h0 hd K hK
      have z : u7 = false := h0
      have z9_ : u9 = false := by
        cases hu : u9 with
        | false => rfl
        | true => exact nomatch z.symm.trans ((kF hu).2.2.2.2.2.2.2.1)
      have zd : u1 = true ∧ u3 = true ∧ u4 = true ∧ u6 = true := by
        simp [Region.binds] at hd
        simp [hd]
      have H_kB := hide kB
      have H_k1 := hide k1
      have H_k3 := hide k3
      have H_k6 := hide k6
      have H_k7 := hide k7
      have H_k8 := hide k8
      have H_kN := hide kN
      have H_k9 := hide k9
      have H_c1 := hide c1
      have H_c3 := hide c3
      have H_c6 := hide c6
      have H_c7 := hide c7
      have H_kF := hide kF
      clear kB k1 k3 k6 k7 k8 kN k9 c1 c3 c6 c7 kF
      obtain ⟨rfl, rfl, rfl, rfl⟩ := zd
      subst z9_
      subst z
      clear h0 hd
      rw [if_pos (by rfl)]
      go_simp
      refine (unhide HM g1 g2 g3 W (unhide H_k1 rfl rfl) (unhide H_k3 rfl rfl) (unhide H_k6 rfl rfl)).mono ?_
      rintro e w8 ⟨⟨u', c', rfl, hro⟩, hb8⟩
      exact unhide hK _ _ ⟨u0, true, u2, true, true, u5, true, true, u8, false, g1, g2, g3, u', c', M, rfl, rfl, (bc (unhide H_kB) hb8), (fun h hz => (unhide H_k1 h hz).bel hb8), (fun h hz => (unhide H_k3 h hz).bel hb8), (fun h hz => (unhide H_k6 h hz).bel hb8), (fun _ => hro.mono (unhide H_kB).size), (fun h => ⟨(unhide H_k8 h).1, Nat.lt_of_lt_of_le (unhide H_k8 h).2.1 hb8.size, fun h2 => ((unhide H_k8 h).2.2 h2).bel hb8⟩), (fun _ h a ha => by have h1 := (unhide H_k8 h).2.1; have h2 := (World.ownsRow.lt hro a.block (by rw [ha]; rfl)).1; omega), (fun h => nomatch h), unhide H_c1, unhide H_c3, unhide H_c6, (fun _ => ⟨rfl, rfl, rfl, rfl⟩), (fun h => nomatch h)⟩
    · intro h0 hd K hK
      have z : u8 = false := h0
      have z9_ : u9 = false := by
        cases hu : u9 with
        | false => rfl
        | true => exact nomatch z.symm.trans ((kF hu).2.2.2.2.2.2.2.2)
      have H_kB := hide kB
      have H_k1 := hide k1
      have H_k3 := hide k3
      have H_k6 := hide k6
      have H_k7 := hide k7
      have H_k8 := hide k8
      have H_kN := hide kN
      have H_k9 := hide k9
      have H_c1 := hide c1
      have H_c3 := hide c3
      have H_c6 := hide c6
      have H_c7 := hide c7
      have H_kF := hide kF
      clear kB k1 k3 k6 k7 k8 kN k9 c1 c3 c6 c7 kF
      subst z9_
      subst z
      clear h0 hd
      rw [if_pos (by rfl)]
      go_simp
      exact unhide hK _ _ ⟨u0, u1, u2, u3, u4, u5, u6, u7, true, false, g1, g2, g3, uv, cv, W.heap.size, rfl, rfl, (bc (unhide H_kB) (ba (Below.refl _ _) _)), (fun h hz => (unhide H_k1 h hz).bel (ba (Below.refl _ _) _)), (fun h hz => (unhide H_k3 h hz).bel (ba (Below.refl _ _) _)), (fun h hz => (unhide H_k6 h hz).bel (ba (Below.refl _ _) _)), (fun h => (unhide H_k7 h).below (ba (Below.refl _ _) _)), (fun _ => ⟨(unhide H_kB).size, by simp, fun _ => vb_new W 31 [.int .i64 0, .int .i64 0, .int .i64 0, .int .i64 0, .slice none 0 0, .int .i64 0, .int .i64 0, .int .i64 0] _ rfl⟩), (fun h _ a ha => by have h2 := (World.ownsRow.lt (unhide H_k7 h) a.block (by rw [ha]; rfl)).2; omega), (fun h => nomatch h), unhide H_c1, unhide H_c3, unhide H_c6, unhide H_c7, (fun h => nomatch h)⟩
    · intro h0 hd K hK
      have z : u9 = false := h0
      have zd : u7 = true ∧ u8 = true ∧ u0 = true ∧ u1 = true ∧ u2 = true ∧ u3 = true ∧ u4 = true ∧ u5 = true ∧ u6 = true := by
        simp [Region.binds] at hd
        simp_all
      have H_kB := hide kB
      have H_k1 := hide k1
      have H_k3 := hide k3
      have H_k6 := hide k6
      have H_k7 := hide k7
      have H_k8 := hide k8
      have H_kN := hide kN
      have H_k9 := hide k9
      have H_c1 := hide c1
      have H_c3 := hide c3
      have H_c6 := hide c6
      have H_c7 := hide c7
      have H_kF := hide kF
      clear kB k1 k3 k6 k7 k8 kN k9 c1 c3 c6 c7 kF
      obtain ⟨rfl, rfl, rfl, rfl, rfl, rfl, rfl, rfl, rfl⟩ := zd
      subst z
      clear h0 hd
      rw [if_pos (by rfl)]
      have hn := unhide H_kN rfl rfl
      have vz := (unhide H_k8 rfl).2.2 rfl
      have fz := vz.frozen
      have q0 := vz.cell (m := 0) rfl
      have q1 := vz.cell (m := 1) rfl
      have q2 := vz.cell (m := 2) rfl
      have q3 := vz.cell (m := 3) rfl
      have q4 := vz.cell (m := 4) rfl
      have q5 := vz.cell (m := 5) rfl
      have q6 := vz.cell (m := 6) rfl
      have q7 := vz.cell (m := 7) rfl
      have HVZ := hide vz
      have HHN := hide hn
      clear vz hn
      go_simp
      exact unhide hK _ _ ⟨true, true, true, true, true, true, true, true, true, true, g1, g2, g3, uv, cv, M, rfl, rfl, (Below.setCell (Below.setCell (Below.setCell (Below.setCell (Below.setCell (Below.setCell (Below.setCell (Below.setCell (unhide H_kB) (unhide H_k8 rfl).1 _) (unhide H_k8 rfl).1 _) (unhide H_k8 rfl).1 _) (unhide H_k8 rfl).1 _) (unhide H_k8 rfl).1 _) (unhide H_k8 rfl).1 _) (unhide H_k8 rfl).1 _) (unhide H_k8 rfl).1 _), (fun _ h => nomatch h), (fun _ h => nomatch h), (fun _ h => nomatch h), (fun _ => (unhide H_k7 rfl).kept' (fun y hy => by have hq : y ≠ M := (by obtain ⟨a', e1, e2⟩ := own_u (v := .bool true) hy; have := unhide HHN a' e1; omega); exact (Below.heap_setCell _ _ _ _ hq).trans ( (Below.heap_setCell _ _ _ _ hq).trans ( (Below.heap_setCell _ _ _ _ hq).trans ( (Below.heap_setCell _ _ _ _ hq).trans ( (Below.heap_setCell _ _ _ _ hq).trans ( (Below.heap_setCell _ _ _ _ hq).trans ( (Below.heap_setCell _ _ _ _ hq).trans (Below.heap_setCell _ _ _ _ hq))))))))), (fun _ => ⟨(unhide H_k8 rfl).1, by simpa [World.setCell] using (unhide H_k8 rfl).2.1, (fun h => nomatch h)⟩), (fun _ _ => unhide HHN), (fun _ => ((((((((unhide HVZ).set 0 _).set 1 _).set 2 _).set 3 _).set 4 _).set 5 _).set 6 _).set 7 _), (fun _ => rfl), (fun _ => rfl), (fun _ => rfl), (fun _ => ⟨rfl, rfl, rfl, rfl⟩), (fun _ => ⟨rfl, rfl, rfl, rfl, rfl, rfl, rfl, rfl, rfl⟩)⟩
  case hend =>
    rintro Lb A W ⟨u0, u1, u2, u3, u4, u5, u6, u7, u8, u9, g1, g2, g3, uv, cv, M, rfl, rfl, kB, k1, k3, k6, k7, k8, kN, k9, c1, c3, c6, c7, kF⟩ hL
    have hl : u0 = true ∧ u1 = true ∧ u2 = true ∧ u3 = true ∧ u4 = true ∧ u5 = true ∧ u6 = true ∧ u7 = true ∧ u8 = true ∧ u9 = true := by
      have h2 := congrArg Array.toList hL
      simpa [List.replicate] using h2
    obtain ⟨rfl, rfl, rfl, rfl, rfl, rfl, rfl, rfl, rfl, rfl⟩ := hl
    exact unhide HQ _ _ _ _ _ _ _ _ uv cv M W kB (k7 rfl) (k8 rfl).1 (kN rfl rfl) (k9 rfl)

set_option maxHeartbeats 4000000 in
set_option maxRecDepth 100000 in
theorem ml38 {s0 s1 s6 s7 s8 s9 s10 s11 s12 s13 s14 s15 s16 s17 s18 s19 s20 s21 s22 s23 s24 s25 s26 s27 s28 s29 s30 s31 s32 s33 s34 s35 s36 s37 s38 s39 s40 s41 s42 s43 s44 s45 s46 s47 s48 s49 s50 s51 s52 s53 s54 s55 s56 s57 s58 s59 s60 s61 s62 s63 s64 s65 s66 s67 s68 s69 s70 s71 s72 s73 s74 s75 s76 s77 s78 s79 s80 s81 s82 s83 s84 s85 s86 s87 s88 s89 s90 s91 s92 s93 s94 s95 s96 s97 s98 s99 s100 s101 s102 s103 s104 s105 s106 s107 s108 s109 s110 s111 s112 s113 s114 s115 s116 s117 s118 s119 : Value} {Ws Hs Wp Hp R E bd Wr Hr cu ai de : Int} {us up um : Option Addr} {ns cs np cp mm cm m b4 b5 : Nat} {S T F : List Int} {ms : List Mve} {V : World} {K_ : Act → World → Prop}
    (HS : Hid (vb V b4 42 [.int .i64 Ws, .int .i64 Hs, .slice us ns cs])) (HP : Hid (vb V b5 42 [.int .i64 Wp, .int .i64 Hp, .slice up np cp]))
    (HTS : Hid (∀ X, Below V.heap.size V X → Calls Try.prog 21 #[.agg #[.int .i64 Ws, .int .i64 Hs, .slice us ns cs]] X fun e w' => (∃ g, e = .returned (.agg #[.int .i64 Ws, .int .i64 Hs, .slice (some ⟨g, 0, none⟩) ns ns]) ∧ X.heap.size ≤ g ∧ iblk w' g 3 S) ∧ Below X.heap.size X w'))
    (HTP : Hid (∀ X, Below V.heap.size V X → Calls Try.prog 21 #[.agg #[.int .i64 Wp, .int .i64 Hp, .slice up np cp]] X fun e w' => (∃ g, e = .returned (.agg #[.int .i64 Wp, .int .i64 Hp, .slice (some ⟨g, 0, none⟩) np np]) ∧ X.heap.size ≤ g ∧ iblk w' g 3 T) ∧ Below X.heap.size X w'))
    (HTM : Hid (∀ X, Below V.heap.size V X → Calls Try.prog 25 #[.slice um mm cm] X fun e w' => (∃ g, e = .returned (.slice (some ⟨g, 0, none⟩) mm mm) ∧ X.heap.size ≤ g ∧ vb w' g 36 (flat4 ms)) ∧ Below X.heap.size X w'))
    (HM : Hid (∀ (g1 g2 g3 : Nat) (X : World), iblk X g1 3 S → iblk X g2 3 T → vb X g3 36 (flat4 ms) → Calls Try.prog 11 #[.agg #[.int .i64 Ws, .int .i64 Hs, .slice (some ⟨g1, 0, none⟩) ns ns], .agg #[.int .i64 Wp, .int .i64 Hp, .slice (some ⟨g2, 0, none⟩) np np], .int .i64 R, .slice (some ⟨g3, 0, none⟩) mm mm] X fun e w' => (∃ uv cv, e = .returned (.agg #[.int .i64 E, .int .i64 bd, .int .i64 Wr, .int .i64 Hr, .slice uv m cv, .int .i64 cu, .int .i64 ai, .int .i64 de]) ∧ Row w' X.heap.size 3 1 (.slice uv m cv) m F) ∧ Below X.heap.size X w'))
    (hQ : ∀ (y100 y101 y102 y103 y104 y105 y106 y107 : Value) (uv : Option Addr) (cv M : Nat) (W' : World), Below V.heap.size V W' → Row W' V.heap.size 3 1 (.slice uv m cv) m F → V.heap.size ≤ M → (∀ a, uv = some a → a.block ≠ M) → vb W' M 31 [.int .i64 E, .int .i64 bd, .int .i64 Wr, .int .i64 Hr, .slice uv m cv, .int .i64 cu, .int .i64 ai, .int .i64 de] → K_ { tmps := #[s0, s1, .int .i64 (R), .slice um mm cm, .pointer (some ⟨b4, 0, none⟩), .pointer (some ⟨b5, 0, none⟩), s6, s7, s8, s9, s10, s11, s12, s13, s14, s15, s16, s17, .pointer (some ⟨M, 0, none⟩), s19, s20, s21, s22, s23, s24, s25, s26, s27, s28, s29, s30, s31, s32, s33, s34, s35, s36, s37, s38, s39, s40, s41, s42, s43, s44, s45, s46, s47, s48, s49, s50, s51, s52, s53, s54, s55, s56, s57, s58, s59, s60, s61, s62, s63, s64, s65, s66, s67, s68, s69, s70, s71, s72, s73, s74, s75, s76, s77, s78, s79, s80, s81, s82, s83, s84, s85, s86, s87, s88, s89, s90, s91, s92, s93, s94, s95, s96, s97, s98, s99, y100, y101, y102, y103, y104, y105, y106, y107, s108, s109, s110, s111, s112, s113, s114, s115, s116, s117, s118, s119], defers := [] } W') :
    Go.Code.wp Try.prog (reg6 38) (Only K_) { tmps := #[s0, s1, .int .i64 (R), .slice um mm cm, .pointer (some ⟨b4, 0, none⟩), .pointer (some ⟨b5, 0, none⟩), s6, s7, s8, s9, s10, s11, s12, s13, s14, s15, s16, s17, s18, s19, s20, s21, s22, s23, s24, s25, s26, s27, s28, s29, s30, s31, s32, s33, s34, s35, s36, s37, s38, s39, s40, s41, s42, s43, s44, s45, s46, s47, s48, s49, s50, s51, s52, s53, s54, s55, s56, s57, s58, s59, s60, s61, s62, s63, s64, s65, s66, s67, s68, s69, s70, s71, s72, s73, s74, s75, s76, s77, s78, s79, s80, s81, s82, s83, s84, s85, s86, s87, s88, s89, s90, s91, s92, s93, s94, s95, s96, s97, s98, s99, s100, s101, s102, s103, s104, s105, s106, s107, s108, s109, s110, s111, s112, s113, s114, s115, s116, s117, s118, s119], defers := [] } V := by
  have HQ := hide hQ
  clear hQ
  conv => arg 2; whnf
  refine wp_region_inv2 (fun Lb A W => ∃ (u0 u1 u2 u3 u4 u5 u6 u7 u8 u9 : Bool) (g1 : Nat) (g2 : Nat) (g3 : Nat) (uv : Option Addr) (cv : Nat) (M : Nat), Lb = #[u0, u1, u2, u3, u4, u5, u6, u7, u8, u9] ∧ A = ({ tmps := #[s0, s1, .int .i64 (R), .slice um mm cm, .pointer (some ⟨b4, 0, none⟩), .pointer (some ⟨b5, 0, none⟩), s6, s7, s8, s9, s10, s11, s12, s13, s14, s15, s16, s17, (bif u8 then .pointer (some ⟨M, 0, none⟩) else s18), s19, s20, s21, s22, s23, s24, s25, s26, s27, s28, s29, s30, s31, s32, s33, s34, s35, s36, s37, s38, s39, s40, s41, s42, s43, s44, s45, s46, s47, s48, s49, s50, s51, s52, s53, s54, s55, s56, s57, s58, s59, s60, s61, s62, s63, s64, s65, s66, s67, s68, s69, s70, s71, s72, s73, s74, s75, s76, s77, s78, s79, s80, s81, s82, s83, s84, s85, s86, s87, s88, s89, s90, s91, s92, s93, s94, s95, s96, s97, s98, s99, (bif u0 then .agg #[.int .i64 Ws, .int .i64 Hs, .slice us ns cs] else s100), (bif u1 then .agg #[.int .i64 Ws, .int .i64 Hs, .slice (some ⟨g1, 0, none⟩) ns ns] else s101), (bif u2 then .agg #[.int .i64 Wp, .int .i64 Hp, .slice up np cp] else s102), (bif u3 then .agg #[.int .i64 Wp, .int .i64 Hp, .slice (some ⟨g2, 0, none⟩) np np] else s103), (bif u4 then .int .i64 (R) else s104), (bif u5 then .slice um mm cm else s105), (bif u6 then .slice (some ⟨g3, 0, none⟩) mm mm else s106), (bif u7 then .agg #[.int .i64 E, .int .i64 bd, .int .i64 Wr, .int .i64 Hr, .slice uv m cv, .int .i64 cu, .int .i64 ai, .int .i64 de] else s107), s108, s109, s110, s111, s112, s113, s114, s115, s116, s117, s118, s119], defers := [] } : Act) ∧ Below V.heap.size V W ∧ (u1 = true → u9 = false → iblk W g1 3 S) ∧ (u3 = true → u9 = false → iblk W g2 3 T) ∧ (u6 = true → u9 = false → vb W g3 36 (flat4 ms)) ∧ (u7 = true → Row W V.heap.size 3 1 (.slice uv m cv) m F) ∧ (u8 = true → V.heap.size ≤ M ∧ M < W.heap.size ∧ (u9 = false → vb W M 31 [.int .i64 0, .int .i64 0, .int .i64 0, .int .i64 0, .slice none 0 0, .int .i64 0, .int .i64 0, .int .i64 0])) ∧ (u7 = true → u8 = true → ∀ a, uv = some a → a.block ≠ M) ∧ (u9 = true → vb W M 31 [.int .i64 E, .int .i64 bd, .int .i64 Wr, .int .i64 Hr, .slice uv m cv, .int .i64 cu, .int .i64 ai, .int .i64 de]) ∧ (u1 = true → u0 = true) ∧ (u3 = true → u2 = true) ∧ (u6 = true → u5 = true) ∧ (u7 = true → u1 = true ∧ u3 = true ∧ u4 = true ∧ u6 = true) ∧ (u9 = true → u0 = true ∧ u1 = true ∧ u2 = true ∧ u3 = true ∧ u4 = true ∧ u5 = true ∧ u6 = true ∧ u7 = true ∧ u8 = true)) (by kernel_rfl) (by kernel_rfl) ?h0 ?hstep ?hend
  case h0 =>
    exact ⟨false, false, false, false, false, false, false, false, false, false, 0, 0, 0, none, 0, 0, rfl, rfl, Below.drew (Below.refl _ _), (fun h => nomatch h), (fun h => nomatch h), (fun h => nomatch h), (fun h => nomatch h), (fun h => nomatch h), (fun h => nomatch h), (fun h => nomatch h), (fun h => nomatch h), (fun h => nomatch h), (fun h => nomatch h), (fun h => nomatch h), (fun h => nomatch h)⟩
  case hstep =>
    rintro Lb A W ⟨u0, u1, u2, u3, u4, u5, u6, u7, u8, u9, g1, g2, g3, uv, cv, M, rfl, rfl, kB, k1, k3, k6, k7, k8, kN, k9, c1, c3, c6, c7, kF⟩
    refine ⟨?_, ?_, ?_, ?_, ?_, ?_, ?_, ?_, ?_, ?_, trivial⟩
    · intro h0 hd K hK
      have z : u0 = false := h0
      have z9_ : u9 = false := by
        cases hu : u9 with
        | false => rfl
        | true => exact nomatch z.symm.trans ((kF hu).1)
      have H_kB := hide kB
      have H_k1 := hide k1
      have H_k3 := hide k3
      have H_k6 := hide k6
      have H_k7 := hide k7
      have H_k8 := hide k8
      have H_kN := hide kN
      have H_k9 := hide k9
      have H_c1 := hide c1
      have H_c3 := hide c3
      have H_c6 := hide c6
      have H_c7 := hide c7
      have H_kF := hide kF
      clear kB k1 k3 k6 k7 k8 kN k9 c1 c3 c6 c7 kF
      subst z9_
      subst z
      clear h0 hd
      rw [if_pos (by rfl)]
      have v1 := (unhide HS).bel (unhide H_kB)
      have q0 := v1.cell (m := 0) rfl
      have q1 := v1.cell (m := 1) rfl
      have q2 := v1.cell (m := 2) rfl
      clear v1
      go_simp
      exact unhide hK _ _ ⟨true, u1, u2, u3, u4, u5, u6, u7, u8, false, g1, g2, g3, uv, cv, M, rfl, rfl, unhide H_kB, unhide H_k1, unhide H_k3, unhide H_k6, unhide H_k7, unhide H_k8, unhide H_kN, (fun h => nomatch h), (fun h => rfl), unhide H_c3, unhide H_c6, unhide H_c7, (fun h => nomatch h)⟩
    · intro h0 hd K hK
      have z : u1 = false := h0
      have z9_ : u9 = false := by
        cases hu : u9 with
        | false => rfl
        | true => exact nomatch z.symm.trans ((kF hu).2.1)
      have z7_ : u7 = false := by
        cases hu : u7 with
        | false => rfl
        | true => exact nomatch z.symm.trans ((c7 hu).1)
      have zd : u0 = true := by
        simp [Region.binds] at hd
        simp [hd]
      have H_kB := hide kB
      have H_k1 := hide k1
      have H_k3 := hide k3
      have H_k6 := hide k6
      have H_k7 := hide k7
      have H_k8 := hide k8
      have H_kN := hide kN
      have H_k9 := hide k9
      have H_c1 := hide c1
      have H_c3 := hide c3
      have H_c6 := hide c6
      have H_c7 := hide c7
      have H_kF := hide kF
      clear kB k1 k3 k6 k7 k8 kN k9 c1 c3 c6 c7 kF
      obtain ⟨rfl⟩ := zd
      subst z9_
      subst z7_
      subst z
      clear h0 hd
      rw [if_pos (by rfl)]
      go_simp
      refine (unhide HTS W (unhide H_kB)).mono ?_
      rintro e w8 ⟨⟨g', rfl, hg', hk'⟩, hb8⟩
      exact unhide hK _ _ ⟨true, true, u2, u3, u4, u5, u6, false, u8, false, g', g2, g3, uv, cv, M, rfl, rfl, (bc (unhide H_kB) hb8), (fun _ _ => hk'), (fun h hz => (unhide H_k3 h hz).bel hb8), (fun h hz => (unhide H_k6 h hz).bel hb8), (fun h => nomatch h), (fun h => ⟨(unhide H_k8 h).1, Nat.lt_of_lt_of_le (unhide H_k8 h).2.1 hb8.size, fun h2 => ((unhide H_k8 h).2.2 h2).bel hb8⟩), (fun h => nomatch h), (fun h => nomatch h), (fun _ => rfl), unhide H_c3, unhide H_c6, (fun h => nomatch h), (fun h => nomatch h)⟩
    · intro h0 hd K hK
      have z : u2 = false := h0
      have z9_ : u9 = false := by
        cases hu : u9 with
        | false => rfl
        | true => exact nomatch z.symm.trans ((kF hu).2.2.1)
      have H_kB := hide kB
      have H_k1 := hide k1
      have H_k3 := hide k3
      have H_k6 := hide k6
      have H_k7 := hide k7
      have H_k8 := hide k8
      have H_kN := hide kN
      have H_k9 := hide k9
      have H_c1 := hide c1
      have H_c3 := hide c3
      have H_c6 := hide c6
      have H_c7 := hide c7
      have H_kF := hide kF
      clear kB k1 k3 k6 k7 k8 kN k9 c1 c3 c6 c7 kF
      subst z9_
      subst z
      clear h0 hd
      rw [if_pos (by rfl)]
      have v1 := (unhide HP).bel (unhide H_kB)
      have q0 := v1.cell (m := 0) rfl
      have q1 := v1.cell (m := 1) rfl
      have q2 := v1.cell (m := 2) rfl
      clear v1
      go_simp
      exact unhide hK _ _ ⟨u0, u1, true, u3, u4, u5, u6, u7, u8, false, g1, g2, g3, uv, cv, M, rfl, rfl, unhide H_kB, unhide H_k1, unhide H_k3, unhide H_k6, unhide H_k7, unhide H_k8, unhide H_kN, (fun h => nomatch h), unhide H_c1, (fun h => rfl), unhide H_c6, unhide H_c7, (fun h => nomatch h)⟩
    · intro h0 hd K hK
      have z : u3 = false := h0
      have z9_ : u9 = false := by
        cases hu : u9 with
        | false => rfl
        | true => exact nomatch z.symm.trans ((kF hu).2.2.2.1)
      have z7_ : u7 = false := by
        cases hu : u7 with
        | false => rfl
        | true => exact nomatch z.symm.trans ((c7 hu).2.1)
      have zd : u2 = true := by
        simp [Region.binds] at hd
        simp [hd]
      have H_kB := hide kB
      have H_k1 := hide k1
      have H_k3 := hide k3
      have H_k6 := hide k6
      have H_k7 := hide k7
      have H_k8 := hide k8
      have H_kN := hide kN
      have H_k9 := hide k9
      have H_c1 := hide c1
      have H_c3 := hide c3
      have H_c6 := hide c6
      have H_c7 := hide c7
      have H_kF := hide kF
      clear kB k1 k3 k6 k7 k8 kN k9 c1 c3 c6 c7 kF
      obtain ⟨rfl⟩ := zd
      subst z9_
      subst z7_
      subst z
      clear h0 hd
      rw [if_pos (by rfl)]
      go_simp
      refine (unhide HTP W (unhide H_kB)).mono ?_
      rintro e w8 ⟨⟨g', rfl, hg', hk'⟩, hb8⟩
      exact unhide hK _ _ ⟨u0, u1, true, true, u4, u5, u6, false, u8, false, g1, g', g3, uv, cv, M, rfl, rfl, (bc (unhide H_kB) hb8), (fun h hz => (unhide H_k1 h hz).bel hb8), (fun _ _ => hk'), (fun h hz => (unhide H_k6 h hz).bel hb8), (fun h => nomatch h), (fun h => ⟨(unhide H_k8 h).1, Nat.lt_of_lt_of_le (unhide H_k8 h).2.1 hb8.size, fun h2 => ((unhide H_k8 h).2.2 h2).bel hb8⟩), (fun h => nomatch h), (fun h => nomatch h), unhide H_c1, (fun _ => rfl), unhide H_c6, (fun h => nomatch h), (fun h => nomatch h)⟩
    · intro h0 hd K hK
      have z : u4 = false := h0
      have z9_ : u9 = false := by
        cases hu : u9 with
        | false => rfl
        | true => exact nomatch z.symm.trans ((kF hu).2.2.2.2.1)
      have H_kB := hide kB
      have H_k1 := hide k1
      have H_k3 := hide k3
      have H_k6 := hide k6
      have H_k7 := hide k7
      have H_k8 := hide k8
      have H_kN := hide kN
      have H_k9 := hide k9
      have H_c1 := hide c1
      have H_c3 := hide c3
      have H_c6 := hide c6
      have H_c7 := hide c7
      have H_kF := hide kF
      clear kB k1 k3 k6 k7 k8 kN k9 c1 c3 c6 c7 kF
      subst z9_
      subst z
      clear h0 hd
      rw [if_pos (by rfl)]
      go_simp
      exact unhide hK _ _ ⟨u0, u1, u2, u3, true, u5, u6, u7, u8, false, g1, g2, g3, uv, cv, M, rfl, rfl, unhide H_kB, unhide H_k1, unhide H_k3, unhide H_k6, unhide H_k7, unhide H_k8, unhide H_kN, (fun h => nomatch h), unhide H_c1, unhide H_c3, unhide H_c6, (fun h => ⟨(unhide H_c7 h).1, (unhide H_c7 h).2.1, rfl, (unhide H_c7 h).2.2.2⟩), (fun h => nomatch h)⟩
    · intro h0 hd K hK
      have z : u5 = false := h0
      have z9_ : u9 = false := by
        cases hu : u9 with
        | false => rfl
        | true => exact nomatch z.symm.trans ((kF hu).2.2.2.2.2.1)
      have H_kB := hide kB
      have H_k1 := hide k1
      have H_k3 := hide k3
      have H_k6 := hide k6
      have H_k7 := hide k7
      have H_k8 := hide k8
      have H_kN := hide kN
      have H_k9 := hide k9
      have H_c1 := hide c1
      have H_c3 := hide c3
      have H_c6 := hide c6
      have H_c7 := hide c7
      have H_kF := hide kF
      clear kB k1 k3 k6 k7 k8 kN k9 c1 c3 c6 c7 kF
      subst z9_
      subst z
      clear h0 hd
      rw [if_pos (by rfl)]
      go_simp
      exact unhide hK _ _ ⟨u0, u1, u2, u3, u4, true, u6, u7, u8, false, g1, g2, g3, uv, cv, M, rfl, rfl, unhide H_kB, unhide H_k1, unhide H_k3, unhide H_k6, unhide H_k7, unhide H_k8, unhide H_kN, (fun h => nomatch h), unhide H_c1, unhide H_c3, (fun h => rfl), unhide H_c7, (fun h => nomatch h)⟩
    · intro h0 hd K hK
      have z : u6 = false := h0
      have z9_ : u9 = false := by
        cases hu : u9 with
        | false => rfl
        | true => exact nomatch z.symm.trans ((kF hu).2.2.2.2.2.2.1)
      have z7_ : u7 = false := by
        cases hu : u7 with
        | false => rfl
        | true => exact nomatch z.symm.trans ((c7 hu).2.2.2)
      have zd : u5 = true := by
        simp [Region.binds] at hd
        simp [hd]
      have H_kB := hide kB
      have H_k1 := hide k1
      have H_k3 := hide k3
      have H_k6 := hide k6
      have H_k7 := hide k7
      have H_k8 := hide k8
      have H_kN := hide kN
      have H_k9 := hide k9
      have H_c1 := hide c1
      have H_c3 := hide c3
      have H_c6 := hide c6
      have H_c7 := hide c7
      have H_kF := hide kF
      clear kB k1 k3 k6 k7 k8 kN k9 c1 c3 c6 c7 kF
      obtain ⟨rfl⟩ := zd
      subst z9_
      subst z7_
      subst z
      clear h0 hd
      rw [if_pos (by rfl)]
      go_simp
      refine (unhide HTM W (unhide H_kB)).mono ?_
      rintro e w8 ⟨⟨g', rfl, hg', hk'⟩, hb8⟩
      exact unhide hK _ _ ⟨u0, u1, u2, u3, u4, true, true, false, u8, false, g1, g2, g', uv, cv, M, rfl, rfl, (bc (unhide H_kB) hb8), (fun h hz => (unhide H_k1 h hz).bel hb8), (fun h hz => (unhide H_k3 h hz).bel hb8), (fun _ _ => hk'), (fun h => nomatch h), (fun h => ⟨(unhide H_k8 h).1, Nat.lt_of_lt_of_le (unhide H_k8 h).2.1 hb8.size, fun h2 => ((unhide H_k8 h).2.2 h2).bel hb8⟩), (fun h => nomatch h), (fun h => nomatch h), unhide H_c1, unhide H_c3, (fun _ => rfl), (fun h => nomatch h), (fun h => nomatch h)⟩
    · intro h0 hd K hK
      have z : u7 = false := h0
      have z9_ : u9 = false := by
        cases hu : u9 with
        | false => rfl
        | true => exact nomatch z.symm.trans ((kF hu).2.2.2.2.2.2.2.1)
      have zd : u1 = true ∧ u3 = true ∧ u4 = true ∧ u6 = true := by
        simp [Region.binds] at hd
        simp [hd]
      have H_kB := hide kB
      have H_k1 := hide k1
      have H_k3 := hide k3
      have H_k6 := hide k6
      have H_k7 := hide k7
      have H_k8 := hide k8
      have H_kN := hide kN
      have H_k9 := hide k9
      have H_c1 := hide c1
      have H_c3 := hide c3
      have H_c6 := hide c6
      have H_c7 := hide c7
      have H_kF := hide kF
      clear kB k1 k3 k6 k7 k8 kN k9 c1 c3 c6 c7 kF
      obtain ⟨rfl, rfl, rfl, rfl⟩ := zd
      subst z9_
      subst z
      clear h0 hd
      rw [if_pos (by rfl)]
      go_simp
      refine (unhide HM g1 g2 g3 W (unhide H_k1 rfl rfl) (unhide H_k3 rfl rfl) (unhide H_k6 rfl rfl)).mono ?_
      rintro e w8 ⟨⟨u', c', rfl, hro⟩, hb8⟩
      exact unhide hK _ _ ⟨u0, true, u2, true, true, u5, true, true, u8, false, g1, g2, g3, u', c', M, rfl, rfl, (bc (unhide H_kB) hb8), (fun h hz => (unhide H_k1 h hz).bel hb8), (fun h hz => (unhide H_k3 h hz).bel hb8), (fun h hz => (unhide H_k6 h hz).bel hb8), (fun _ => hro.mono (unhide H_kB).size), (fun h => ⟨(unhide H_k8 h).1, Nat.lt_of_lt_of_le (unhide H_k8 h).2.1 hb8.size, fun h2 => ((unhide H_k8 h).2.2 h2).bel hb8⟩), (fun _ h a ha => by have h1 := (unhide H_k8 h).2.1; have h2 := (World.ownsRow.lt hro a.block (by rw [ha]; rfl)).1; omega), (fun h => nomatch h), unhide H_c1, unhide H_c3, unhide H_c6, (fun _ => ⟨rfl, rfl, rfl, rfl⟩), (fun h => nomatch h)⟩
    · intro h0 hd K hK
      have z : u8 = false := h0
      have z9_ : u9 = false := by
        cases hu : u9 with
        | false => rfl
        | true => exact nomatch z.symm.trans ((kF hu).2.2.2.2.2.2.2.2)
      have H_kB := hide kB
      have H_k1 := hide k1
      have H_k3 := hide k3
      have H_k6 := hide k6
      have H_k7 := hide k7
      have H_k8 := hide k8
      have H_kN := hide kN
      have H_k9 := hide k9
      have H_c1 := hide c1
      have H_c3 := hide c3
      have H_c6 := hide c6
      have H_c7 := hide c7
      have H_kF := hide kF
      clear kB k1 k3 k6 k7 k8 kN k9 c1 c3 c6 c7 kF
      subst z9_
      subst z
      clear h0 hd
      rw [if_pos (by rfl)]
      go_simp
      exact unhide hK _ _ ⟨u0, u1, u2, u3, u4, u5, u6, u7, true, false, g1, g2, g3, uv, cv, W.heap.size, rfl, rfl, (bc (unhide H_kB) (ba (Below.refl _ _) _)), (fun h hz => (unhide H_k1 h hz).bel (ba (Below.refl _ _) _)), (fun h hz => (unhide H_k3 h hz).bel (ba (Below.refl _ _) _)), (fun h hz => (unhide H_k6 h hz).bel (ba (Below.refl _ _) _)), (fun h => (unhide H_k7 h).below (ba (Below.refl _ _) _)), (fun _ => ⟨(unhide H_kB).size, by simp, fun _ => vb_new W 31 [.int .i64 0, .int .i64 0, .int .i64 0, .int .i64 0, .slice none 0 0, .int .i64 0, .int .i64 0, .int .i64 0] _ rfl⟩), (fun h _ a ha => by have h2 := (World.ownsRow.lt (unhide H_k7 h) a.block (by rw [ha]; rfl)).2; omega), (fun h => nomatch h), unhide H_c1, unhide H_c3, unhide H_c6, unhide H_c7, (fun h => nomatch h)⟩
    · intro h0 hd K hK
      have z : u9 = false := h0
      have zd : u7 = true ∧ u8 = true ∧ u0 = true ∧ u1 = true ∧ u2 = true ∧ u3 = true ∧ u4 = true ∧ u5 = true ∧ u6 = true := by
        simp [Region.binds] at hd
        simp_all
      have H_kB := hide kB
      have H_k1 := hide k1
      have H_k3 := hide k3
      have H_k6 := hide k6
      have H_k7 := hide k7
      have H_k8 := hide k8
      have H_kN := hide kN
      have H_k9 := hide k9
      have H_c1 := hide c1
      have H_c3 := hide c3
      have H_c6 := hide c6
      have H_c7 := hide c7
      have H_kF := hide kF
      clear kB k1 k3 k6 k7 k8 kN k9 c1 c3 c6 c7 kF
      obtain ⟨rfl, rfl, rfl, rfl, rfl, rfl, rfl, rfl, rfl⟩ := zd
      subst z
      clear h0 hd
      rw [if_pos (by rfl)]
      have hn := unhide H_kN rfl rfl
      have vz := (unhide H_k8 rfl).2.2 rfl
      have fz := vz.frozen
      have q0 := vz.cell (m := 0) rfl
      have q1 := vz.cell (m := 1) rfl
      have q2 := vz.cell (m := 2) rfl
      have q3 := vz.cell (m := 3) rfl
      have q4 := vz.cell (m := 4) rfl
      have q5 := vz.cell (m := 5) rfl
      have q6 := vz.cell (m := 6) rfl
      have q7 := vz.cell (m := 7) rfl
      have HVZ := hide vz
      have HHN := hide hn
      clear vz hn
      go_simp
      exact unhide hK _ _ ⟨true, true, true, true, true, true, true, true, true, true, g1, g2, g3, uv, cv, M, rfl, rfl, (Below.setCell (Below.setCell (Below.setCell (Below.setCell (Below.setCell (Below.setCell (Below.setCell (Below.setCell (unhide H_kB) (unhide H_k8 rfl).1 _) (unhide H_k8 rfl).1 _) (unhide H_k8 rfl).1 _) (unhide H_k8 rfl).1 _) (unhide H_k8 rfl).1 _) (unhide H_k8 rfl).1 _) (unhide H_k8 rfl).1 _) (unhide H_k8 rfl).1 _), (fun _ h => nomatch h), (fun _ h => nomatch h), (fun _ h => nomatch h), (fun _ => (unhide H_k7 rfl).kept' (fun y hy => by have hq : y ≠ M := (by obtain ⟨a', e1, e2⟩ := own_u (v := .bool true) hy; have := unhide HHN a' e1; omega); exact (Below.heap_setCell _ _ _ _ hq).trans ( (Below.heap_setCell _ _ _ _ hq).trans ( (Below.heap_setCell _ _ _ _ hq).trans ( (Below.heap_setCell _ _ _ _ hq).trans ( (Below.heap_setCell _ _ _ _ hq).trans ( (Below.heap_setCell _ _ _ _ hq).trans ( (Below.heap_setCell _ _ _ _ hq).trans (Below.heap_setCell _ _ _ _ hq))))))))), (fun _ => ⟨(unhide H_k8 rfl).1, by simpa [World.setCell] using (unhide H_k8 rfl).2.1, (fun h => nomatch h)⟩), (fun _ _ => unhide HHN), (fun _ => ((((((((unhide HVZ).set 0 _).set 1 _).set 2 _).set 3 _).set 4 _).set 5 _).set 6 _).set 7 _), (fun _ => rfl), (fun _ => rfl), (fun _ => rfl), (fun _ => ⟨rfl, rfl, rfl, rfl⟩), (fun _ => ⟨rfl, rfl, rfl, rfl, rfl, rfl, rfl, rfl, rfl⟩)⟩
  case hend =>
    rintro Lb A W ⟨u0, u1, u2, u3, u4, u5, u6, u7, u8, u9, g1, g2, g3, uv, cv, M, rfl, rfl, kB, k1, k3, k6, k7, k8, kN, k9, c1, c3, c6, c7, kF⟩ hL
    have hl : u0 = true ∧ u1 = true ∧ u2 = true ∧ u3 = true ∧ u4 = true ∧ u5 = true ∧ u6 = true ∧ u7 = true ∧ u8 = true ∧ u9 = true := by
      have h2 := congrArg Array.toList hL
      simpa [List.replicate] using h2
    obtain ⟨rfl, rfl, rfl, rfl, rfl, rfl, rfl, rfl, rfl, rfl⟩ := hl
    exact unhide HQ _ _ _ _ _ _ _ _ uv cv M W kB (k7 rfl) (k8 rfl).1 (kN rfl rfl) (k9 rfl)
end Go.Proofs.Ytbjljofgpbecbaa
