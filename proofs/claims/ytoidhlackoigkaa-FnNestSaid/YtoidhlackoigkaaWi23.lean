/-
  Statements of with that draw their order.
-/
import Derived.Test.YtoidhlackoigkaaApF
import Derived.Test.YtoidhlackoigkaaNsDj
import Derived.Test.YtoidhlackoigkaaInv2
namespace Go.Proofs.Ytoidhlackoigkaa
open Go.ChangeShapes Go.WideShapes Go.ChangeAt Go.RowKit
set_option linter.unusedVariables false
set_option linter.unusedSimpArgs false

noncomputable def rg23 (id : Nat) : Go.Code := match Try.f23.body with | some c => (regOfZ id c).getD .skip | none => .skip
set_option maxHeartbeats 4000000 in
set_option maxRecDepth 100000 in
theorem wi7 {s0 s1 s2 s3 s5 s6 s7 s8 s10 s11 s12 s13 s14 s15 s16 s17 s18 s19 s20 s21 s22 s23 s24 s25 s26 s27 s28 s29 s30 s31 s32 s33 s34 s35 s36 s37 s38 s39 s40 s41 s42 s43 s44 s45 s46 s47 s48 : Value} {g q : Nat} {m x y wi he R Wd : Int} {t : Bool} {V : World} {K_ : Act → World → Prop} 
    (HG0 : Hid (V.cell? ⟨g, 0, none⟩ = some (.int .i64 (m)))) (HG1 : Hid (V.cell? ⟨g, 1, none⟩ = some (.int .i64 (x)))) (HG2 : Hid (V.cell? ⟨g, 2, none⟩ = some (.int .i64 (y)))) (HG3 : Hid (V.cell? ⟨g, 3, none⟩ = some (.bool (t)))) (HG4 : Hid (V.cell? ⟨g, 4, none⟩ = some (.int .i64 (wi)))) (HG5 : Hid (V.cell? ⟨g, 5, none⟩ = some (.int .i64 (he)))) (HQ0 : Hid (V.cell? ⟨q, 0, none⟩ = some (.int .i64 (Wd)))) 
    (HF1 : Hid (∀ Xw, Below V.heap.size V Xw → Calls Try.prog 43 #[.agg #[.int .i64 (m), .int .i64 (x), .int .i64 (y), .bool (t), .int .i64 (wi), .int .i64 (he)]] Xw fun e w' => e = .returned (.int .i64 (R)) ∧ Below Xw.heap.size Xw w'))
    (hQ : ∀  (W1 : World), Below V.heap.size V W1 → K_ { tmps := #[s0, s1, s2, s3, .pointer (some ⟨q, 0, none⟩), s5, s6, s7, s8, .pointer (some ⟨g, 0, none⟩), s10, s11, s12, s13, s14, s15, s16, s17, s18, s19, s20, s21, s22, s23, s24, s25, s26, s27, s28, s29, s30, s31, s32, s33, .agg #[.int .i64 (m), .int .i64 (x), .int .i64 (y), .bool (t), .int .i64 (wi), .int .i64 (he)], .int .i64 (R), .pointer (some ⟨q, 0, none⟩), .int .i64 (Wd), .bool (decide (R ≤ Wd)), s39, s40, s41, s42, s43, s44, s45, s46, s47, s48], defers := [] } W1) :
    Go.Code.wp Try.prog (rg23 7) (Only K_) { tmps := #[s0, s1, s2, s3, .pointer (some ⟨q, 0, none⟩), s5, s6, s7, s8, .pointer (some ⟨g, 0, none⟩), s10, s11, s12, s13, s14, s15, s16, s17, s18, s19, s20, s21, s22, s23, s24, s25, s26, s27, s28, s29, s30, s31, s32, s33, s34, s35, s36, s37, s38, s39, s40, s41, s42, s43, s44, s45, s46, s47, s48], defers := [] } V := by
  have HQ := hide hQ
  clear hQ
  conv => arg 2; whnf
  refine wp_region_inv2 (fun Lb A W => ∃ (u0 u1 u2 u3 u4 : Bool) (dm : Nat), Lb = #[u0, u1, u2, u3, u4] ∧ A = ({ tmps := #[s0, s1, s2, s3, .pointer (some ⟨q, 0, none⟩), s5, s6, s7, s8, .pointer (some ⟨g, 0, none⟩), s10, s11, s12, s13, s14, s15, s16, s17, s18, s19, s20, s21, s22, s23, s24, s25, s26, s27, s28, s29, s30, s31, s32, s33, (bif u0 then .agg #[.int .i64 (m), .int .i64 (x), .int .i64 (y), .bool (t), .int .i64 (wi), .int .i64 (he)] else s34), (bif u1 then .int .i64 (R) else s35), (bif u2 then .pointer (some ⟨q, 0, none⟩) else s36), (bif u3 then .int .i64 (Wd) else s37), (bif u4 then .bool (decide (R ≤ Wd)) else s38), s39, s40, s41, s42, s43, s44, s45, s46, s47, s48], defers := [] } : Act) ∧ Below V.heap.size V W ∧ (u1 = true → u0 = true) ∧ (u3 = true → u2 = true) ∧ (u4 = true → u0 = true ∧ u1 = true ∧ u2 = true ∧ u3 = true)) (by kernel_rfl) (by kernel_rfl) ?h0 ?hstep ?hend
  case h0 =>
    exact ⟨false, false, false, false, false, 0, rfl, rfl, Below.drew (Below.refl _ _), zf, zf, zf⟩
  case hstep =>
    intro Lb A W hI
    obtain ⟨u0, u1, u2, u3, u4, hI⟩ := hI
    obtain ⟨dm, hI⟩ := hI
    obtain ⟨hLb, hI⟩ := hI
    obtain ⟨hA, hI⟩ := hI
    obtain ⟨kB, hI⟩ := hI
    obtain ⟨l1, hI⟩ := hI
    obtain ⟨l3, hI⟩ := hI
    have kF := hI
    clear hI
    subst hLb
    subst hA
    replace kB := hide kB
    replace l1 := hide l1
    replace l3 := hide l3
    replace kF := hide kF
    refine ⟨?_, ?_, ?_, ?_, ?_, trivial⟩
    · intro h0 hd K hK
      have z : u0 = false := h0
      have z4_ : u4 = false := znb fun hu => z.symm.trans ((zu kF hu).1)
      subst z4_
      subst z
      clear h0 hd
      rw [if_pos (by rfl)]
      have c0 := keep1 (zu kB) (unhide HG0)
      have c1 := keep1 (zu kB) (unhide HG1)
      have c2 := keep1 (zu kB) (unhide HG2)
      have c3 := keep1 (zu kB) (unhide HG3)
      have c4 := keep1 (zu kB) (unhide HG4)
      have c5 := keep1 (zu kB) (unhide HG5)
      go_simp
      exact unhide hK _ _ ⟨true, u1, u2, u3, false, dm, rfl, rfl, zu kB, (fun h => rfl), zu l3, zf⟩
    · intro h0 hd K hK
      have z : u1 = false := h0
      have z4_ : u4 = false := znb fun hu => z.symm.trans ((zu kF hu).2.1)
      have zd : u0 = true := by
        simp [Region.binds] at hd
        simp [hd]
      obtain ⟨rfl⟩ := zd
      subst z4_
      subst z
      clear h0 hd
      rw [if_pos (by rfl)]
      go_simp
      refine (unhide HF1 W (zu kB)).mono ?_
      rintro e w8 ⟨rfl, hb8⟩
      exact unhide hK _ _ ⟨true, true, u2, u3, false, dm, rfl, rfl, bc (zu kB) hb8, (fun _ => rfl), zu l3, zf⟩
    · intro h0 hd K hK
      have z : u2 = false := h0
      have z4_ : u4 = false := znb fun hu => z.symm.trans ((zu kF hu).2.2.1)
      subst z4_
      subst z
      clear h0 hd
      rw [if_pos (by rfl)]
      go_simp
      exact unhide hK _ _ ⟨u0, u1, true, u3, false, dm, rfl, rfl, zu kB, zu l1, (fun h => rfl), zf⟩
    · intro h0 hd K hK
      have z : u3 = false := h0
      have z4_ : u4 = false := znb fun hu => z.symm.trans ((zu kF hu).2.2.2)
      have zd : u2 = true := by
        simp [Region.binds] at hd
        simp [hd]
      obtain ⟨rfl⟩ := zd
      subst z4_
      subst z
      clear h0 hd
      rw [if_pos (by rfl)]
      have c0 := keep1 (zu kB) (unhide HQ0)
      go_simp
      exact unhide hK _ _ ⟨u0, u1, true, true, false, dm, rfl, rfl, zu kB, zu l1, (fun _ => rfl), zf⟩
    · intro h0 hd K hK
      have z : u4 = false := h0
      have zd0 : u1 = true ∧ u3 = true := by
        simp [Region.binds] at hd
        simp [hd]
      have zd : u1 = true ∧ u3 = true ∧ u0 = true ∧ u2 = true := ⟨zd0.1, zd0.2, (zu l1 zd0.1), (zu l3 zd0.2)⟩
      obtain ⟨rfl, rfl, rfl, rfl⟩ := zd
      subst z
      clear h0 hd
      rw [if_pos (by rfl)]
      go_simp
      exact unhide hK _ _ ⟨true, true, true, true, true, dm, rfl, rfl, zu kB, (fun _ => rfl), (fun _ => rfl), (fun _ => ⟨rfl, rfl, rfl, rfl⟩)⟩
  case hend =>
    intro Lb A W hI
    obtain ⟨u0, u1, u2, u3, u4, hI⟩ := hI
    obtain ⟨dm, hI⟩ := hI
    obtain ⟨hLb, hI⟩ := hI
    obtain ⟨hA, hI⟩ := hI
    obtain ⟨kB, hI⟩ := hI
    obtain ⟨l1, hI⟩ := hI
    obtain ⟨l3, hI⟩ := hI
    have kF := hI
    clear hI
    subst hLb
    subst hA
    intro hL
    have hl : u0 = true ∧ u1 = true ∧ u2 = true ∧ u3 = true ∧ u4 = true := by
      have h2 := congrArg Array.toList hL
      simpa [List.replicate] using h2
    obtain ⟨rfl, rfl, rfl, rfl, rfl⟩ := hl
    exact unhide HQ   W kB

theorem src_any {w : World} {g t : Nat} {vs : List Value} (h : vb w g t vs) : ∀ (j : Nat) (u : Value), vs[j]? = some u → w.cell? ((⟨g, 0, none⟩ : Addr).add j) = some u := by
  intro j u hj
  rw [add_none, Nat.zero_add]
  exact h.cell hj
/-- a row of laid plates that was just made -/
structure NewL (V W : World) (g n cap : Nat) (L : List Ld) : Prop where
  lt : g < W.heap.size
  ge : V.heap.size ≤ g
  ca : n + 1 ≤ cap
  cm : cap ≤ maxLen
  cl : ∀ j x, (flatL L)[j]? = some x → W.cell? ⟨g, j, none⟩ = some x
theorem laid_info : (Try.prog.info? 78).map (fun i => (i.zero, i.size, i.bytes)) = some (some (.agg #[.int .i64 0, .int .i64 0, .int .i64 0, .bool false, .int .i64 0, .int .i64 0]), 6, 48) := by kernel_rfl
set_option maxHeartbeats 4000000 in
set_option maxRecDepth 100000 in
theorem wi9 {s0 s1 s2 s3 s5 s6 s7 s10 s11 s12 s13 s14 s15 s16 s17 s18 s19 s20 s21 s22 s23 s24 s25 s26 s27 s28 s29 s30 s31 s32 s33 s34 s35 s36 s37 s38 s39 s40 s41 s42 s43 s44 s45 s46 s47 s48 : Value} {q g r n c b po : Nat} {u : Option Addr} {L : List Ld} {m x y wi he Wd : Int} {t : Bool} {V : World} {K_ : Act → World → Prop}
    (HQ0 : Hid (V.cell? ⟨q, 0, none⟩ = some (.int .i64 Wd))) (HQ1 : Hid (V.cell? ⟨q, 1, none⟩ = some (.slice u n c)))
    (HG0 : Hid (V.cell? ⟨g, 0, none⟩ = some (.int .i64 m))) (HG1 : Hid (V.cell? ⟨g, 1, none⟩ = some (.int .i64 x))) (HG2 : Hid (V.cell? ⟨g, 2, none⟩ = some (.int .i64 y))) (HG3 : Hid (V.cell? ⟨g, 3, none⟩ = some (.bool t))) (HG4 : Hid (V.cell? ⟨g, 4, none⟩ = some (.int .i64 wi))) (HG5 : Hid (V.cell? ⟨g, 5, none⟩ = some (.int .i64 he)))
    (HL : Hid (L.length = n)) (HU : Hid (Lds V u b po L)) (hc : n ≤ c) (hn : n ≤ 100000) (hu0 : u = none → c = 0) (hu1 : n = 0 → u = none)
    (hbO : r < V.heap.size) {oo0 oo1 : Value} (HO0 : Hid (V.cell? ⟨r, 0, none⟩ = some oo0)) (HO1 : Hid (V.cell? ⟨r, 1, none⟩ = some oo1)) (HOf : Hid (∀ o, V.frozen? ⟨r, o, none⟩ = false))
    (hQ : ∀ (n6 n7 c7 : Nat) (W1 W9 : World), W9 = (W1.setCell ⟨r, 0, none⟩ (.int .i64 Wd)).setCell ⟨r, 1, none⟩ (.slice (some ⟨n7, 0, none⟩) (n + 1) c7) → Below V.heap.size V W1 → NewL V W1 n7 n c7 (L ++ [⟨m, t, ⟨x, y, wi, he⟩⟩]) → K_ { tmps := #[s0, s1, s2, s3, .pointer (some ⟨q, 0, none⟩), s5, s6, s7, .pointer (some ⟨r, 0, none⟩), .pointer (some ⟨g, 0, none⟩), s10, s11, s12, s13, s14, s15, s16, s17, s18, s19, s20, s21, s22, s23, s24, s25, s26, s27, s28, s29, s30, s31, s32, s33, s34, s35, s36, s37, s38, s39, .pointer (some ⟨q, 0, none⟩), .int .i64 Wd, .pointer (some ⟨q, 1, none⟩), .slice u n c, .slice u n n, .agg #[.int .i64 m, .int .i64 x, .int .i64 y, .bool t, .int .i64 wi, .int .i64 he], .slice (some ⟨n6, 0, none⟩) 1 1, .slice (some ⟨n7, 0, none⟩) (n + 1) c7, .agg #[.int .i64 Wd, .slice (some ⟨n7, 0, none⟩) (n + 1) c7]], defers := [] } W9) :
    Go.Code.wp Try.prog (rg23 9) (Only K_) { tmps := #[s0, s1, s2, s3, .pointer (some ⟨q, 0, none⟩), s5, s6, s7, .pointer (some ⟨r, 0, none⟩), .pointer (some ⟨g, 0, none⟩), s10, s11, s12, s13, s14, s15, s16, s17, s18, s19, s20, s21, s22, s23, s24, s25, s26, s27, s28, s29, s30, s31, s32, s33, s34, s35, s36, s37, s38, s39, s40, s41, s42, s43, s44, s45, s46, s47, s48], defers := [] } V := by
  have HQ := hide hQ
  clear hQ
  obtain ⟨iP, hi1, hy0, hy1, hy2⟩ := info_parts laid_info
  conv => arg 2; whnf
  refine wp_region_inv2 (fun Lb A W => ∃ (u0 u1 u2 u3 u4 u5 u6 u7 u8 u9 : Bool) (n6 : Nat) (n7 : Nat) (c7 : Nat), Lb = #[u0, u1, u2, u3, u4, u5, u6, u7, u8, u9] ∧ A = ({ tmps := #[s0, s1, s2, s3, .pointer (some ⟨q, 0, none⟩), s5, s6, s7, .pointer (some ⟨r, 0, none⟩), .pointer (some ⟨g, 0, none⟩), s10, s11, s12, s13, s14, s15, s16, s17, s18, s19, s20, s21, s22, s23, s24, s25, s26, s27, s28, s29, s30, s31, s32, s33, s34, s35, s36, s37, s38, s39, (bif u0 then .pointer (some ⟨q, 0, none⟩) else s40), (bif u1 then .int .i64 Wd else s41), (bif u2 then .pointer (some ⟨q, 1, none⟩) else s42), (bif u3 then .slice u n c else s43), (bif u4 then .slice u n n else s44), (bif u5 then .agg #[.int .i64 m, .int .i64 x, .int .i64 y, .bool t, .int .i64 wi, .int .i64 he] else s45), (bif u6 then .slice (some ⟨n6, 0, none⟩) 1 1 else s46), (bif u7 then .slice (some ⟨n7, 0, none⟩) (n + 1) c7 else s47), (bif u8 then .agg #[.int .i64 Wd, .slice (some ⟨n7, 0, none⟩) (n + 1) c7] else s48)], defers := [] } : Act) ∧ (u9 = false → Below V.heap.size V W) ∧ (u6 = true → u7 = false → vb W n6 78 [.int .i64 m, .int .i64 x, .int .i64 y, .bool t, .int .i64 wi, .int .i64 he]) ∧ (u7 = true → u9 = false → NewL V W n7 n c7 (L ++ [⟨m, t, ⟨x, y, wi, he⟩⟩])) ∧ (u9 = true → ∃ W1, Below V.heap.size V W1 ∧ NewL V W1 n7 n c7 (L ++ [⟨m, t, ⟨x, y, wi, he⟩⟩]) ∧ W = (W1.setCell ⟨r, 0, none⟩ (.int .i64 Wd)).setCell ⟨r, 1, none⟩ (.slice (some ⟨n7, 0, none⟩) (n + 1) c7)) ∧ (u3 = true → u2 = true) ∧ (u4 = true → u3 = true) ∧ (u6 = true → u5 = true) ∧ (u7 = true → u4 = true ∧ u6 = true) ∧ (u8 = true → u1 = true ∧ u7 = true) ∧ (u9 = true → u0 = true ∧ u1 = true ∧ u2 = true ∧ u3 = true ∧ u4 = true ∧ u5 = true ∧ u6 = true ∧ u7 = true ∧ u8 = true)) (by kernel_rfl) (by kernel_rfl) ?h0 ?hstep ?hend
  case h0 =>
    exact ⟨false, false, false, false, false, false, false, false, false, false, 0, 0, 0, rfl, rfl, (fun _ => Below.drew (Below.refl _ _)), zf, zf, zf, zf, zf, zf, zf, zf, zf⟩
  case hstep =>
    intro Lb A W hI
    obtain ⟨u0, u1, u2, u3, u4, hI⟩ := hI
    obtain ⟨u5, u6, u7, u8, u9, hI⟩ := hI
    obtain ⟨n6, n7, c7, hI⟩ := hI
    obtain ⟨hLb, hI⟩ := hI
    obtain ⟨hA, hI⟩ := hI
    obtain ⟨kB, hI⟩ := hI
    obtain ⟨k6, hI⟩ := hI
    obtain ⟨kA, hI⟩ := hI
    obtain ⟨kZ, hI⟩ := hI
    obtain ⟨l3, hI⟩ := hI
    obtain ⟨l4, hI⟩ := hI
    obtain ⟨l6, hI⟩ := hI
    obtain ⟨l7, hI⟩ := hI
    obtain ⟨l8, hI⟩ := hI
    have kF := hI
    clear hI
    subst hLb
    subst hA
    replace kB := hide kB
    replace k6 := hide k6
    replace kA := hide kA
    replace kZ := hide kZ
    replace l3 := hide l3
    replace l4 := hide l4
    replace l6 := hide l6
    replace l7 := hide l7
    replace l8 := hide l8
    replace kF := hide kF
    refine ⟨?_, ?_, ?_, ?_, ?_, ?_, ?_, ?_, ?_, ?_, trivial⟩
    · intro h0 hd K hK
      have z : u0 = false := h0
      have z9_ : u9 = false := znb fun hu => z.symm.trans ((zu kF hu).1)
      subst z9_
      subst z
      clear h0 hd
      rw [if_pos (by rfl)]
      go_simp
      exact unhide hK _ _ ⟨true, u1, u2, u3, u4, u5, u6, u7, u8, false, n6, n7, c7, rfl, rfl, zu kB, zu k6, zu kA, zf, zu l3, zu l4, zu l6, zu l7, zu l8, zf⟩
    · intro h0 hd K hK
      have z : u1 = false := h0
      have z9_ : u9 = false := znb fun hu => z.symm.trans ((zu kF hu).2.1)
      have zd : u0 = true := by
        simp [Region.binds] at hd
        simp [hd]
      obtain ⟨rfl⟩ := zd
      subst z9_
      subst z
      clear h0 hd
      rw [if_pos (by rfl)]
      have c0 := keep1 (zu kB rfl) (unhide HQ0)
      go_simp
      exact unhide hK _ _ ⟨true, true, u2, u3, u4, u5, u6, u7, u8, false, n6, n7, c7, rfl, rfl, zu kB, zu k6, zu kA, zf, zu l3, zu l4, zu l6, zu l7, (fun h => ⟨rfl, (zu l8 h).2⟩), zf⟩
    · intro h0 hd K hK
      have z : u2 = false := h0
      have z9_ : u9 = false := znb fun hu => z.symm.trans ((zu kF hu).2.2.1)
      have z7_ : u7 = false := znb fun hu => z.symm.trans ((zu l3 (zu l4 (zu l7 hu).1)))
      subst z9_
      subst z7_
      subst z
      clear h0 hd
      rw [if_pos (by rfl)]
      go_simp
      exact unhide hK _ _ ⟨u0, u1, true, u3, u4, u5, u6, false, u8, false, n6, n7, c7, rfl, rfl, zu kB, zu k6, zf, zf, (fun h => rfl), zu l4, zu l6, zf, zu l8, zf⟩
    · intro h0 hd K hK
      have z : u3 = false := h0
      have z9_ : u9 = false := znb fun hu => z.symm.trans ((zu kF hu).2.2.2.1)
      have z7_ : u7 = false := znb fun hu => z.symm.trans ((zu l4 (zu l7 hu).1))
      have zd : u2 = true := by
        simp [Region.binds] at hd
        simp [hd]
      obtain ⟨rfl⟩ := zd
      subst z9_
      subst z7_
      subst z
      clear h0 hd
      rw [if_pos (by rfl)]
      have c0 := keep1 (zu kB rfl) (unhide HQ1)
      go_simp
      exact unhide hK _ _ ⟨u0, u1, true, true, u4, u5, u6, false, u8, false, n6, n7, c7, rfl, rfl, zu kB, zu k6, zf, zf, (fun _ => rfl), (fun h => rfl), zu l6, zf, zu l8, zf⟩
    · intro h0 hd K hK
      have z : u4 = false := h0
      have z9_ : u9 = false := znb fun hu => z.symm.trans ((zu kF hu).2.2.2.2.1)
      have z7_ : u7 = false := znb fun hu => z.symm.trans ((zu l7 hu).1)
      have zd : u3 = true := by
        simp [Region.binds] at hd
        simp [hd]
      obtain ⟨rfl⟩ := zd
      subst z9_
      subst z7_
      subst z
      clear h0 hd
      rw [if_pos (by rfl)]
      go_simp
      refine (clip_any u n c W hc hn hu0).mono ?_
      rintro e w8 ⟨rfl, rfl⟩
      exact unhide hK _ _ ⟨u0, u1, u2, true, true, u5, u6, false, u8, false, n6, n7, c7, rfl, rfl, zu kB, zu k6, zf, zf, zu l3, (fun _ => rfl), zu l6, zf, zu l8, zf⟩
    · intro h0 hd K hK
      have z : u5 = false := h0
      have z9_ : u9 = false := znb fun hu => z.symm.trans ((zu kF hu).2.2.2.2.2.1)
      have z7_ : u7 = false := znb fun hu => z.symm.trans ((zu l6 (zu l7 hu).2))
      subst z9_
      subst z7_
      subst z
      clear h0 hd
      rw [if_pos (by rfl)]
      have c0 := keep1 (zu kB rfl) (unhide HG0)
      have c1 := keep1 (zu kB rfl) (unhide HG1)
      have c2 := keep1 (zu kB rfl) (unhide HG2)
      have c3 := keep1 (zu kB rfl) (unhide HG3)
      have c4 := keep1 (zu kB rfl) (unhide HG4)
      have c5 := keep1 (zu kB rfl) (unhide HG5)
      go_simp
      exact unhide hK _ _ ⟨u0, u1, u2, u3, u4, true, u6, false, u8, false, n6, n7, c7, rfl, rfl, zu kB, zu k6, zf, zf, zu l3, zu l4, (fun h => rfl), zf, zu l8, zf⟩
    · intro h0 hd K hK
      have z : u6 = false := h0
      have z9_ : u9 = false := znb fun hu => z.symm.trans ((zu kF hu).2.2.2.2.2.2.1)
      have z7_ : u7 = false := znb fun hu => z.symm.trans ((zu l7 hu).2)
      have zd : u5 = true := by
        simp [Region.binds] at hd
        simp [hd]
      obtain ⟨rfl⟩ := zd
      subst z9_
      subst z7_
      subst z
      clear h0 hd
      rw [if_pos (by rfl)]
      go_simp
      exact unhide hK _ _ ⟨u0, u1, u2, u3, u4, true, true, false, u8, false, W.heap.size, n7, c7, rfl, rfl, (fun _ => ba (zu kB rfl) _), (fun _ _ => vb_new W 78 [.int .i64 m, .int .i64 x, .int .i64 y, .bool t, .int .i64 wi, .int .i64 he] _ rfl), zf, zf, zu l3, zu l4, (fun _ => rfl), zf, zu l8, zf⟩
    · intro h0 hd K hK
      have z : u7 = false := h0
      have z9_ : u9 = false := znb fun hu => z.symm.trans ((zu kF hu).2.2.2.2.2.2.2.1)
      have z8_ : u8 = false := znb fun hu => z.symm.trans ((zu l8 hu).2)
      have zd : u4 = true ∧ u6 = true := by
        simp [Region.binds] at hd
        simp [hd]
      obtain ⟨rfl, rfl⟩ := zd
      subst z9_
      subst z8_
      subst z
      clear h0 hd
      rw [if_pos (by rfl)]
      have h6 := zu k6 rfl rfl
      have hb := (zu kB rfl)
      refine wp_append_full W (.tmp 44) (.tmp 46) 45 (by rfl) 78 iP _ 6 48 Try.underlying45 hi1 hy0 hy1 hy2 u n (flatL L) (by rfl) (by rw [flatL_len, unhide HL]) (((unhide HU).bel hb).olds (unhide HL)) hu1 ⟨n6, 0, none⟩ 1 [.int .i64 m, .int .i64 x, .int .i64 y, .bool t, .int .i64 wi, .int .i64 he] (by rfl) (by rfl) (src_any h6) hn (by omega) ?_
      intro cap w1 q1 q2 q3 q4 q5
      have HN : NewL V w1 W.heap.size n cap (L ++ [⟨m, t, ⟨x, y, wi, he⟩⟩]) := ⟨q4, hb.size, q1, q2, by rw [flatL_app]; exact q5⟩
      go_simp
      exact unhide hK _ _ ⟨u0, u1, u2, u3, true, u5, true, true, false, false, n6, W.heap.size, cap, rfl, rfl, (fun _ => bc hb q3), (fun _ => zt), (fun _ _ => HN), zf, zu l3, zu l4, zu l6, (fun _ => ⟨rfl, rfl⟩), zf, zf⟩
    · intro h0 hd K hK
      have z : u8 = false := h0
      have z9_ : u9 = false := znb fun hu => z.symm.trans ((zu kF hu).2.2.2.2.2.2.2.2)
      have zd : u1 = true ∧ u7 = true := by
        simp [Region.binds] at hd
        simp [hd]
      obtain ⟨rfl, rfl⟩ := zd
      subst z9_
      subst z
      clear h0 hd
      rw [if_pos (by rfl)]
      go_simp
      exact unhide hK _ _ ⟨u0, true, u2, u3, u4, u5, u6, true, true, false, n6, n7, c7, rfl, rfl, zu kB, (fun _ => zt), zu kA, zf, zu l3, zu l4, zu l6, zu l7, (fun _ => ⟨rfl, rfl⟩), zf⟩
    · intro h0 hd K hK
      have z : u9 = false := h0
      have zd0 : u0 = true ∧ u1 = true ∧ u2 = true ∧ u3 = true ∧ u4 = true ∧ u5 = true ∧ u6 = true ∧ u7 = true ∧ u8 = true := by
        simp [Region.binds] at hd
        simp [hd]
      have zd : u0 = true ∧ u1 = true ∧ u2 = true ∧ u3 = true ∧ u4 = true ∧ u5 = true ∧ u6 = true ∧ u7 = true ∧ u8 = true := ⟨zd0.1, zd0.2.1, zd0.2.2.1, zd0.2.2.2.1, zd0.2.2.2.2.1, zd0.2.2.2.2.2.1, zd0.2.2.2.2.2.2.1, zd0.2.2.2.2.2.2.2.1, zd0.2.2.2.2.2.2.2.2⟩
      obtain ⟨rfl, rfl, rfl, rfl, rfl, rfl, rfl, rfl, rfl⟩ := zd
      subst z
      clear h0 hd
      rw [if_pos (by rfl)]
      have hB := zu kB rfl
      have hA := zu kA rfl rfl
      have q0 := keep1 hB (unhide HO0)
      have q1 := keep1 hB (unhide HO1)
      have fz : ∀ o, W.frozen? ⟨r, o, none⟩ = false := fun o => keepz hB hbO (unhide HOf o)
      have HBB := hide hB
      have HAA := hide hA
      clear hB hA
      go_simp
      exact unhide hK _ _ ⟨true, true, true, true, true, true, true, true, true, true, n6, n7, c7, rfl, rfl, zt, (fun _ => zt), (fun _ => zt), (fun _ => ⟨W, unhide HBB, unhide HAA, rfl⟩), (fun _ => rfl), (fun _ => rfl), (fun _ => rfl), (fun _ => ⟨rfl, rfl⟩), (fun _ => ⟨rfl, rfl⟩), (fun _ => ⟨rfl, rfl, rfl, rfl, rfl, rfl, rfl, rfl, rfl⟩)⟩
  case hend =>
    intro Lb A W hI
    obtain ⟨u0, u1, u2, u3, u4, hI⟩ := hI
    obtain ⟨u5, u6, u7, u8, u9, hI⟩ := hI
    obtain ⟨n6, n7, c7, hI⟩ := hI
    obtain ⟨hLb, hI⟩ := hI
    obtain ⟨hA, hI⟩ := hI
    obtain ⟨kB, hI⟩ := hI
    obtain ⟨k6, hI⟩ := hI
    obtain ⟨kA, hI⟩ := hI
    obtain ⟨kZ, hI⟩ := hI
    obtain ⟨l3, hI⟩ := hI
    obtain ⟨l4, hI⟩ := hI
    obtain ⟨l6, hI⟩ := hI
    obtain ⟨l7, hI⟩ := hI
    obtain ⟨l8, hI⟩ := hI
    have kF := hI
    clear hI
    subst hLb
    subst hA
    intro hL
    have hl : u0 = true ∧ u1 = true ∧ u2 = true ∧ u3 = true ∧ u4 = true ∧ u5 = true ∧ u6 = true ∧ u7 = true ∧ u8 = true ∧ u9 = true := by
      have h2 := congrArg Array.toList hL
      simpa [List.replicate] using h2
    obtain ⟨rfl, rfl, rfl, rfl, rfl, rfl, rfl, rfl, rfl, rfl⟩ := hl
    obtain ⟨W1, z1, z2, z3⟩ := kZ rfl
    exact unhide HQ n6 n7 c7 W1 W z3 z1 z2

end Go.Proofs.Ytoidhlackoigkaa
