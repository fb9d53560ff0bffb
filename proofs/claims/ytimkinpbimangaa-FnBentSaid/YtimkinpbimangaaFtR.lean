/-
  Statements of the program's Flat that draw their order, each walked alone.
-/
import Derived.Test.YtimkinpbimangaaFtMath
import Derived.Test.YtimkinpbimangaaInv2
import Derived.Test.YtimkinpbimangaaVb
import Derived.Test.YtimkinpbimangaaApN
import Derived.Test.YtimkinpbimangaaItL
namespace Go.Proofs.Ytimkinpbimangaa
open Go.ChangeShapes Go.WideShapes Go.ChangeAt Go.RowKit
set_option linter.unusedVariables false
set_option linter.unusedSimpArgs false

noncomputable def rg40 (id : Nat) : Go.Code := match Try.f40.body with | some c => (regOfZ id c).getD .skip | none => .skip
noncomputable def rg41 (id : Nat) : Go.Code := match Try.f41.body with | some c => (regOfZ id c).getD .skip | none => .skip
theorem neq32 (a b c d : Int) (W : World) : (binOp .neq 32 (.agg #[.int .i64 a, .int .i64 b]) (.agg #[.int .i64 c, .int .i64 d])).run Try.prog W = .ok (.bool (!decide (a = c) || !decide (b = d))) W := by
  cases h1 : a == c <;> cases h2 : b == d
  all_goals
    have k1 := h1
    have k2 := h2
    simp only [beq_eq_false_iff_ne, beq_iff_eq] at k1 k2
    have e : (!decide (a = c) || !decide (b = d)) = !(a == c && b == d) := by simp [k1, k2]
    rw [e, h1, h2]
    clear e k1 k2
    go_simp
set_option maxHeartbeats 4000000 in
set_option maxRecDepth 100000 in
theorem fp6 {s1 s2 s3 s4 s5 s6 s9 s10 s11 s12 s13 s14 s15 s16 s17 s18 s19 s20 s21 s22 s23 s24 s25 s26 s27 s28 s29 s30 s31 s32 s33 s34 s35 s36 s37 s38 s39 s40 s41 s42 s43 s44 s45 : Value} {b po n cap g i : Nat} {x0 y0 x1 y1 v0 v1 : Int} {V : World} {K_ : Act → World → Prop} 
    (HG0 : Hid (V.cell? ⟨g, 0, none⟩ = some (.int .i64 (x1)))) (HG1 : Hid (V.cell? ⟨g, 1, none⟩ = some (.int .i64 (y1)))) (HA0 : Hid (V.cell? ⟨b, po + i * 2, none⟩ = some (.int .i64 (x0)))) (HA1 : Hid (V.cell? ⟨b, po + i * 2 + 1, none⟩ = some (.int .i64 (y0)))) 
    (HX3 : Hid (i < n))
    (HF5 : Hid (∀ Xw, Below V.heap.size V Xw → Calls Try.prog 64 #[.agg #[.int .i64 (x1), .int .i64 (y1)], .agg #[.int .i64 (x0), .int .i64 (y0)]] Xw fun e w' => e = .returned (.agg #[.int .i64 (v0), .int .i64 (v1)]) ∧ Below Xw.heap.size Xw w'))
    (hQ : ∀ (n6 : Nat)  (W1 : World), Below V.heap.size V W1 → vb W1 n6 32 [.int .i64 (v0), .int .i64 (v1)] → V.heap.size ≤ n6 → K_ { tmps := #[.slice (some ⟨b, po, none⟩) n cap, s1, s2, s3, s4, s5, s6, .int .i64 (i : Int), .pointer (some ⟨g, 0, none⟩), .pointer (some ⟨n6, 0, none⟩), s10, s11, s12, s13, s14, s15, s16, s17, .agg #[.int .i64 (x1), .int .i64 (y1)], .slice (some ⟨b, po, none⟩) n cap, .int .i64 (i : Int), .pointer (some ⟨b, po + i * 2, none⟩), .agg #[.int .i64 (x0), .int .i64 (y0)], .agg #[.int .i64 (v0), .int .i64 (v1)], s24, s25, s26, s27, s28, s29, s30, s31, s32, s33, s34, s35, s36, s37, s38, s39, s40, s41, s42, s43, s44, s45], defers := [] } W1) :
    Go.Code.wp Try.prog (rg40 6) (Only K_) { tmps := #[.slice (some ⟨b, po, none⟩) n cap, s1, s2, s3, s4, s5, s6, .int .i64 (i : Int), .pointer (some ⟨g, 0, none⟩), s9, s10, s11, s12, s13, s14, s15, s16, s17, s18, s19, s20, s21, s22, s23, s24, s25, s26, s27, s28, s29, s30, s31, s32, s33, s34, s35, s36, s37, s38, s39, s40, s41, s42, s43, s44, s45], defers := [] } V := by
  have HQ := hide hQ
  clear hQ
  conv => arg 2; whnf
  refine wp_region_inv2 (fun Lb A W => ∃ (u0 u1 u2 u3 u4 u5 u6 u7 : Bool) (n6 : Nat), Lb = #[u0, u1, u2, u3, u4, u5, u6, u7] ∧ A = ({ tmps := #[.slice (some ⟨b, po, none⟩) n cap, s1, s2, s3, s4, s5, s6, .int .i64 (i : Int), .pointer (some ⟨g, 0, none⟩), (bif u6 then .pointer (some ⟨n6, 0, none⟩) else s9), s10, s11, s12, s13, s14, s15, s16, s17, (bif u0 then .agg #[.int .i64 (x1), .int .i64 (y1)] else s18), (bif u1 then .slice (some ⟨b, po, none⟩) n cap else s19), (bif u2 then .int .i64 (i : Int) else s20), (bif u3 then .pointer (some ⟨b, po + i * 2, none⟩) else s21), (bif u4 then .agg #[.int .i64 (x0), .int .i64 (y0)] else s22), (bif u5 then .agg #[.int .i64 (v0), .int .i64 (v1)] else s23), s24, s25, s26, s27, s28, s29, s30, s31, s32, s33, s34, s35, s36, s37, s38, s39, s40, s41, s42, s43, s44, s45], defers := [] } : Act) ∧ Below V.heap.size V W ∧ (u6 = true → vb W n6 32 (bif u7 then [.int .i64 (v0), .int .i64 (v1)] else [.int .i64 (0), .int .i64 (0)]) ∧ V.heap.size ≤ n6) ∧ (u7 = true → u0 = true ∧ u1 = true ∧ u2 = true ∧ u3 = true ∧ u4 = true ∧ u5 = true ∧ u6 = true)) (by kernel_rfl) (by kernel_rfl) ?h0 ?hstep ?hend
  case h0 =>
    exact ⟨false, false, false, false, false, false, false, false, 0, rfl, rfl, Below.drew (Below.refl _ _), zf, zf⟩
  case hstep =>
    intro Lb A W hI
    obtain ⟨u0, u1, u2, u3, u4, hI⟩ := hI
    obtain ⟨u5, u6, u7, n6, hI⟩ := hI
    obtain ⟨hLb, hI⟩ := hI
    obtain ⟨hA, hI⟩ := hI
    obtain ⟨kB, hI⟩ := hI
    obtain ⟨k6, hI⟩ := hI
    have kF := hI
    clear hI
    subst hLb
    subst hA
    replace kB := hide kB
    replace k6 := hide k6
    replace kF := hide kF
    refine ⟨?_, ?_, ?_, ?_, ?_, ?_, ?_, ?_, trivial⟩
    · intro h0 hd K hK
      have z : u0 = false := h0
      have z7_ : u7 = false := znb fun hu => z.symm.trans ((zu kF hu).1)
      subst z7_
      subst z
      clear h0 hd
      rw [if_pos (by rfl)]
      have c0 := keep1 (zu kB) (unhide HG0)
      have c1 := keep1 (zu kB) (unhide HG1)
      go_simp
      exact unhide hK _ _ ⟨true, u1, u2, u3, u4, u5, u6, false, n6, rfl, rfl, zu kB, zu k6, zf⟩
    · intro h0 hd K hK
      have z : u1 = false := h0
      have z7_ : u7 = false := znb fun hu => z.symm.trans ((zu kF hu).2.1)
      subst z7_
      subst z
      clear h0 hd
      rw [if_pos (by rfl)]
      go_simp
      exact unhide hK _ _ ⟨u0, true, u2, u3, u4, u5, u6, false, n6, rfl, rfl, zu kB, zu k6, zf⟩
    · intro h0 hd K hK
      have z : u2 = false := h0
      have z7_ : u7 = false := znb fun hu => z.symm.trans ((zu kF hu).2.2.1)
      subst z7_
      subst z
      clear h0 hd
      rw [if_pos (by rfl)]
      go_simp
      exact unhide hK _ _ ⟨u0, u1, true, u3, u4, u5, u6, false, n6, rfl, rfl, zu kB, zu k6, zf⟩
    · intro h0 hd K hK
      have z : u3 = false := h0
      have z7_ : u7 = false := znb fun hu => z.symm.trans ((zu kF hu).2.2.2.1)
      have zd : u1 = true ∧ u2 = true := by
        simp [Region.binds] at hd
        simp [hd]
      obtain ⟨rfl, rfl⟩ := zd
      subst z7_
      subst z
      clear h0 hd
      rw [if_pos (by rfl)]
      have q1 : i < n := unhide HX3
      have q2 : (i : Int) < (n : Int) := by omega
      go_simp
      exact unhide hK _ _ ⟨u0, true, true, true, u4, u5, u6, false, n6, rfl, rfl, zu kB, zu k6, zf⟩
    · intro h0 hd K hK
      have z : u4 = false := h0
      have z7_ : u7 = false := znb fun hu => z.symm.trans ((zu kF hu).2.2.2.2.1)
      have zd : u3 = true := by
        simp [Region.binds] at hd
        simp [hd]
      obtain ⟨rfl⟩ := zd
      subst z7_
      subst z
      clear h0 hd
      rw [if_pos (by rfl)]
      have c0 := keep1 (zu kB) (unhide HA0)
      have c1 := keep1 (zu kB) (unhide HA1)
      go_simp
      exact unhide hK _ _ ⟨u0, u1, u2, true, true, u5, u6, false, n6, rfl, rfl, zu kB, zu k6, zf⟩
    · intro h0 hd K hK
      have z : u5 = false := h0
      have z7_ : u7 = false := znb fun hu => z.symm.trans ((zu kF hu).2.2.2.2.2.1)
      have zd : u0 = true ∧ u4 = true := by
        simp [Region.binds] at hd
        simp [hd]
      obtain ⟨rfl, rfl⟩ := zd
      subst z7_
      subst z
      clear h0 hd
      rw [if_pos (by rfl)]
      go_simp
      refine (unhide HF5 W (zu kB)).mono ?_
      rintro e w8 ⟨rfl, hb8⟩
      exact unhide hK _ _ ⟨true, u1, u2, u3, true, true, u6, false, n6, rfl, rfl, bc (zu kB) hb8, (fun h => ⟨(zu k6 h).1.bel hb8, (zu k6 h).2⟩), zf⟩
    · intro h0 hd K hK
      have z : u6 = false := h0
      have z7_ : u7 = false := znb fun hu => z.symm.trans ((zu kF hu).2.2.2.2.2.2)
      subst z7_
      subst z
      clear h0 hd
      rw [if_pos (by rfl)]
      go_simp
      exact unhide hK _ _ ⟨u0, u1, u2, u3, u4, u5, true, false, W.heap.size, rfl, rfl, ba (zu kB) _, (fun _ => ⟨vb_new W 32 _ _ rfl, (zu kB).size⟩), zf⟩
    · intro h0 hd K hK
      have z : u7 = false := h0
      have zd0 : u0 = true ∧ u1 = true ∧ u2 = true ∧ u3 = true ∧ u4 = true ∧ u5 = true ∧ u6 = true := by
        simp [Region.binds] at hd
        simp [hd]
      have zd : u0 = true ∧ u1 = true ∧ u2 = true ∧ u3 = true ∧ u4 = true ∧ u5 = true ∧ u6 = true := ⟨zd0.1, zd0.2.1, zd0.2.2.1, zd0.2.2.2.1, zd0.2.2.2.2.1, zd0.2.2.2.2.2.1, zd0.2.2.2.2.2.2⟩
      obtain ⟨rfl, rfl, rfl, rfl, rfl, rfl, rfl⟩ := zd
      subst z
      clear h0 hd
      rw [if_pos (by rfl)]
      have v1 := (zu k6 rfl).1
      have g9 := (zu k6 rfl).2
      have fz := v1.frozen
      have q0 := v1.cell (m := 0) rfl
      have q1 := v1.cell (m := 1) rfl
      have HV1 := hide v1
      clear v1
      go_simp
      exact unhide hK _ _ ⟨true, true, true, true, true, true, true, true, n6, rfl, rfl, (((((zu kB)).setCell (p := ⟨n6, 0, none⟩) g9 _)).setCell (p := ⟨n6, 1, none⟩) g9 _), (fun _ => ⟨(((unhide HV1).set 0 _).set 1 _), g9⟩), (fun _ => ⟨rfl, rfl, rfl, rfl, rfl, rfl, rfl⟩)⟩
  case hend =>
    intro Lb A W hI
    obtain ⟨u0, u1, u2, u3, u4, hI⟩ := hI
    obtain ⟨u5, u6, u7, n6, hI⟩ := hI
    obtain ⟨hLb, hI⟩ := hI
    obtain ⟨hA, hI⟩ := hI
    obtain ⟨kB, hI⟩ := hI
    obtain ⟨k6, hI⟩ := hI
    have kF := hI
    clear hI
    subst hLb
    subst hA
    intro hL
    have hl : u0 = true ∧ u1 = true ∧ u2 = true ∧ u3 = true ∧ u4 = true ∧ u5 = true ∧ u6 = true ∧ u7 = true := by
      have h2 := congrArg Array.toList hL
      simpa [List.replicate] using h2
    obtain ⟨rfl, rfl, rfl, rfl, rfl, rfl, rfl, rfl⟩ := hl
    exact unhide HQ n6  W kB (k6 rfl).1 (k6 rfl).2

set_option maxHeartbeats 4000000 in
set_option maxRecDepth 100000 in
theorem eq6 {s2 s3 s4 s6 s7 s8 s9 s10 s11 s12 s13 s14 s15 s16 s17 s18 s19 s20 s21 s22 s23 s24 s25 : Value} {b n cap c po m dap i : Nat} {x0 y0 x1 y1 : Int} {V : World} {K_ : Act → World → Prop} 
    (HA0 : Hid (V.cell? ⟨b, i * 2, none⟩ = some (.int .i64 (x0)))) (HA1 : Hid (V.cell? ⟨b, i * 2 + 1, none⟩ = some (.int .i64 (y0)))) (HB0 : Hid (V.cell? ⟨c, po + i * 2, none⟩ = some (.int .i64 (x1)))) (HB1 : Hid (V.cell? ⟨c, po + i * 2 + 1, none⟩ = some (.int .i64 (y1)))) 
    (HX2 : Hid (i < n))
    (HX6 : Hid (i < m))
    (hQ : ∀  (W1 : World), Below V.heap.size V W1 → K_ { tmps := #[.slice (some ⟨b, 0, none⟩) n cap, .slice (some ⟨c, po, none⟩) m dap, s2, s3, s4, .int .i64 (i : Int), s6, s7, s8, s9, s10, s11, s12, s13, s14, s15, .slice (some ⟨b, 0, none⟩) n cap, .int .i64 (i : Int), .pointer (some ⟨b, i * 2, none⟩), .agg #[.int .i64 (x0), .int .i64 (y0)], .slice (some ⟨c, po, none⟩) m dap, .int .i64 (i : Int), .pointer (some ⟨c, po + i * 2, none⟩), .agg #[.int .i64 (x1), .int .i64 (y1)], .bool (!decide (x0 = x1) || !decide (y0 = y1)), s25], defers := [] } W1) :
    Go.Code.wp Try.prog (rg41 6) (Only K_) { tmps := #[.slice (some ⟨b, 0, none⟩) n cap, .slice (some ⟨c, po, none⟩) m dap, s2, s3, s4, .int .i64 (i : Int), s6, s7, s8, s9, s10, s11, s12, s13, s14, s15, s16, s17, s18, s19, s20, s21, s22, s23, s24, s25], defers := [] } V := by
  have HQ := hide hQ
  clear hQ
  have eqf := neq32 x0 y0 x1 y1
  conv => arg 2; whnf
  refine wp_region_inv2 (fun Lb A W => ∃ (u0 u1 u2 u3 u4 u5 u6 u7 u8 : Bool) (dm : Nat), Lb = #[u0, u1, u2, u3, u4, u5, u6, u7, u8] ∧ A = ({ tmps := #[.slice (some ⟨b, 0, none⟩) n cap, .slice (some ⟨c, po, none⟩) m dap, s2, s3, s4, .int .i64 (i : Int), s6, s7, s8, s9, s10, s11, s12, s13, s14, s15, (bif u0 then .slice (some ⟨b, 0, none⟩) n cap else s16), (bif u1 then .int .i64 (i : Int) else s17), (bif u2 then .pointer (some ⟨b, i * 2, none⟩) else s18), (bif u3 then .agg #[.int .i64 (x0), .int .i64 (y0)] else s19), (bif u4 then .slice (some ⟨c, po, none⟩) m dap else s20), (bif u5 then .int .i64 (i : Int) else s21), (bif u6 then .pointer (some ⟨c, po + i * 2, none⟩) else s22), (bif u7 then .agg #[.int .i64 (x1), .int .i64 (y1)] else s23), (bif u8 then .bool (!decide (x0 = x1) || !decide (y0 = y1)) else s24), s25], defers := [] } : Act) ∧ Below V.heap.size V W ∧ (u2 = true → u0 = true ∧ u1 = true) ∧ (u3 = true → u2 = true) ∧ (u6 = true → u4 = true ∧ u5 = true) ∧ (u7 = true → u6 = true) ∧ (u8 = true → u0 = true ∧ u1 = true ∧ u2 = true ∧ u3 = true ∧ u4 = true ∧ u5 = true ∧ u6 = true ∧ u7 = true)) (by kernel_rfl) (by kernel_rfl) ?h0 ?hstep ?hend
  case h0 =>
    exact ⟨false, false, false, false, false, false, false, false, false, 0, rfl, rfl, Below.drew (Below.refl _ _), zf, zf, zf, zf, zf⟩
  case hstep =>
    intro Lb A W hI
    obtain ⟨u0, u1, u2, u3, u4, hI⟩ := hI
    obtain ⟨u5, u6, u7, u8, dm, hI⟩ := hI
    obtain ⟨hLb, hI⟩ := hI
    obtain ⟨hA, hI⟩ := hI
    obtain ⟨kB, hI⟩ := hI
    obtain ⟨l2, hI⟩ := hI
    obtain ⟨l3, hI⟩ := hI
    obtain ⟨l6, hI⟩ := hI
    obtain ⟨l7, hI⟩ := hI
    have kF := hI
    clear hI
    subst hLb
    subst hA
    replace kB := hide kB
    replace l2 := hide l2
    replace l3 := hide l3
    replace l6 := hide l6
    replace l7 := hide l7
    replace kF := hide kF
    refine ⟨?_, ?_, ?_, ?_, ?_, ?_, ?_, ?_, ?_, trivial⟩
    · intro h0 hd K hK
      have z : u0 = false := h0
      have z8_ : u8 = false := znb fun hu => z.symm.trans ((zu kF hu).1)
      subst z8_
      subst z
      clear h0 hd
      rw [if_pos (by rfl)]
      go_simp
      exact unhide hK _ _ ⟨true, u1, u2, u3, u4, u5, u6, u7, false, dm, rfl, rfl, zu kB, (fun h => ⟨rfl, (zu l2 h).2⟩), zu l3, zu l6, zu l7, zf⟩
    · intro h0 hd K hK
      have z : u1 = false := h0
      have z8_ : u8 = false := znb fun hu => z.symm.trans ((zu kF hu).2.1)
      subst z8_
      subst z
      clear h0 hd
      rw [if_pos (by rfl)]
      go_simp
      exact unhide hK _ _ ⟨u0, true, u2, u3, u4, u5, u6, u7, false, dm, rfl, rfl, zu kB, (fun h => ⟨(zu l2 h).1, rfl⟩), zu l3, zu l6, zu l7, zf⟩
    · intro h0 hd K hK
      have z : u2 = false := h0
      have z8_ : u8 = false := znb fun hu => z.symm.trans ((zu kF hu).2.2.1)
      have zd : u0 = true ∧ u1 = true := by
        simp [Region.binds] at hd
        simp [hd]
      obtain ⟨rfl, rfl⟩ := zd
      subst z8_
      subst z
      clear h0 hd
      rw [if_pos (by rfl)]
      have q1 : i < n := unhide HX2
      have q2 : (i : Int) < (n : Int) := by omega
      go_simp
      exact unhide hK _ _ ⟨true, true, true, u3, u4, u5, u6, u7, false, dm, rfl, rfl, zu kB, (fun _ => ⟨rfl, rfl⟩), (fun h => rfl), zu l6, zu l7, zf⟩
    · intro h0 hd K hK
      have z : u3 = false := h0
      have z8_ : u8 = false := znb fun hu => z.symm.trans ((zu kF hu).2.2.2.1)
      have zd : u2 = true := by
        simp [Region.binds] at hd
        simp [hd]
      obtain ⟨rfl⟩ := zd
      subst z8_
      subst z
      clear h0 hd
      rw [if_pos (by rfl)]
      have c0 := keep1 (zu kB) (unhide HA0)
      have c1 := keep1 (zu kB) (unhide HA1)
      go_simp
      exact unhide hK _ _ ⟨u0, u1, true, true, u4, u5, u6, u7, false, dm, rfl, rfl, zu kB, zu l2, (fun _ => rfl), zu l6, zu l7, zf⟩
    · intro h0 hd K hK
      have z : u4 = false := h0
      have z8_ : u8 = false := znb fun hu => z.symm.trans ((zu kF hu).2.2.2.2.1)
      subst z8_
      subst z
      clear h0 hd
      rw [if_pos (by rfl)]
      go_simp
      exact unhide hK _ _ ⟨u0, u1, u2, u3, true, u5, u6, u7, false, dm, rfl, rfl, zu kB, zu l2, zu l3, (fun h => ⟨rfl, (zu l6 h).2⟩), zu l7, zf⟩
    · intro h0 hd K hK
      have z : u5 = false := h0
      have z8_ : u8 = false := znb fun hu => z.symm.trans ((zu kF hu).2.2.2.2.2.1)
      subst z8_
      subst z
      clear h0 hd
      rw [if_pos (by rfl)]
      go_simp
      exact unhide hK _ _ ⟨u0, u1, u2, u3, u4, true, u6, u7, false, dm, rfl, rfl, zu kB, zu l2, zu l3, (fun h => ⟨(zu l6 h).1, rfl⟩), zu l7, zf⟩
    · intro h0 hd K hK
      have z : u6 = false := h0
      have z8_ : u8 = false := znb fun hu => z.symm.trans ((zu kF hu).2.2.2.2.2.2.1)
      have zd : u4 = true ∧ u5 = true := by
        simp [Region.binds] at hd
        simp [hd]
      obtain ⟨rfl, rfl⟩ := zd
      subst z8_
      subst z
      clear h0 hd
      rw [if_pos (by rfl)]
      have q1 : i < m := unhide HX6
      have q2 : (i : Int) < (m : Int) := by omega
      go_simp
      exact unhide hK _ _ ⟨u0, u1, u2, u3, true, true, true, u7, false, dm, rfl, rfl, zu kB, zu l2, zu l3, (fun _ => ⟨rfl, rfl⟩), (fun h => rfl), zf⟩
    · intro h0 hd K hK
      have z : u7 = false := h0
      have z8_ : u8 = false := znb fun hu => z.symm.trans ((zu kF hu).2.2.2.2.2.2.2)
      have zd : u6 = true := by
        simp [Region.binds] at hd
        simp [hd]
      obtain ⟨rfl⟩ := zd
      subst z8_
      subst z
      clear h0 hd
      rw [if_pos (by rfl)]
      have c0 := keep1 (zu kB) (unhide HB0)
      have c1 := keep1 (zu kB) (unhide HB1)
      go_simp
      exact unhide hK _ _ ⟨u0, u1, u2, u3, u4, u5, true, true, false, dm, rfl, rfl, zu kB, zu l2, zu l3, zu l6, (fun _ => rfl), zf⟩
    · intro h0 hd K hK
      have z : u8 = false := h0
      have zd0 : u3 = true ∧ u7 = true := by
        simp [Region.binds] at hd
        simp [hd]
      have zd : u3 = true ∧ u7 = true ∧ u0 = true ∧ u1 = true ∧ u2 = true ∧ u4 = true ∧ u5 = true ∧ u6 = true := ⟨zd0.1, zd0.2, (zu l2 (zu l3 zd0.1)).1, (zu l2 (zu l3 zd0.1)).2, (zu l3 zd0.1), (zu l6 (zu l7 zd0.2)).1, (zu l6 (zu l7 zd0.2)).2, (zu l7 zd0.2)⟩
      obtain ⟨rfl, rfl, rfl, rfl, rfl, rfl, rfl, rfl⟩ := zd
      subst z
      clear h0 hd
      rw [if_pos (by rfl)]
      go_simp
      exact unhide hK _ _ ⟨true, true, true, true, true, true, true, true, true, dm, rfl, rfl, zu kB, (fun _ => ⟨rfl, rfl⟩), (fun _ => rfl), (fun _ => ⟨rfl, rfl⟩), (fun _ => rfl), (fun _ => ⟨rfl, rfl, rfl, rfl, rfl, rfl, rfl, rfl⟩)⟩
  case hend =>
    intro Lb A W hI
    obtain ⟨u0, u1, u2, u3, u4, hI⟩ := hI
    obtain ⟨u5, u6, u7, u8, dm, hI⟩ := hI
    obtain ⟨hLb, hI⟩ := hI
    obtain ⟨hA, hI⟩ := hI
    obtain ⟨kB, hI⟩ := hI
    obtain ⟨l2, hI⟩ := hI
    obtain ⟨l3, hI⟩ := hI
    obtain ⟨l6, hI⟩ := hI
    obtain ⟨l7, hI⟩ := hI
    have kF := hI
    clear hI
    subst hLb
    subst hA
    intro hL
    have hl : u0 = true ∧ u1 = true ∧ u2 = true ∧ u3 = true ∧ u4 = true ∧ u5 = true ∧ u6 = true ∧ u7 = true ∧ u8 = true := by
      have h2 := congrArg Array.toList hL
      simpa [List.replicate] using h2
    obtain ⟨rfl, rfl, rfl, rfl, rfl, rfl, rfl, rfl, rfl⟩ := hl
    exact unhide HQ   W kB

theorem src_vb {w : World} {g t : Nat} {L : List Int} (h : vb w g t (L.map (Value.int .i64))) : ∀ (j : Nat) (u : Value), (L.map (Value.int .i64))[j]? = some u → w.cell? ((⟨g, 0, none⟩ : Addr).add j) = some u := by
  intro j u hj
  rw [add_none, Nat.zero_add]
  exact h.cell hj
set_option maxHeartbeats 4000000 in
set_option maxRecDepth 100000 in
theorem fp9 {s1 s2 s3 s5 s6 s9 s10 s11 s12 s13 s14 s15 s16 s17 s18 s19 s20 s21 s22 s23 s24 s25 s26 s27 s28 s29 s30 s31 s32 s33 s34 s35 s36 s37 s38 s39 s40 s41 s42 s43 s44 s45 rv : Value} {b po n cap g i B k : Nat} {x0 y0 x1 y1 ln : Int} {L : List Int} {V : World} {K_ : Act → World → Prop}
    (HA0 : Hid (V.cell? ⟨b, po + i * 2, none⟩ = some (.int .i64 x0))) (HA1 : Hid (V.cell? ⟨b, po + i * 2 + 1, none⟩ = some (.int .i64 y0))) (HG0 : Hid (V.cell? ⟨g, 0, none⟩ = some (.int .i64 x1))) (HG1 : Hid (V.cell? ⟨g, 1, none⟩ = some (.int .i64 y1)))
    (HX : Hid (i < n)) (HF : Hid (∀ Xw, Below V.heap.size V Xw → Calls Try.prog 67 #[.agg #[.int .i64 x0, .int .i64 y0], .agg #[.int .i64 x1, .int .i64 y1]] Xw fun e w' => e = .returned (.int .i64 ln) ∧ Below Xw.heap.size Xw w'))
    (HR : Hid (Row V B 3 1 rv k L)) (hBV : B ≤ V.heap.size) (hk : k ≤ 100000)
    (hQ : ∀ (n7 : Nat) (r8 : Value) (W1 W9 : World), Below V.heap.size V W1 → Row W9 B 3 1 r8 (k + 1) (L ++ [ln]) → W1.grownBy W9 rv.ownBlock → NewBlk W1 rv r8 → K_ { tmps := #[.slice (some ⟨b, po, none⟩) n cap, s1, s2, s3, r8, s5, s6, .int .i64 (i : Int), .pointer (some ⟨g, 0, none⟩), s9, s10, s11, s12, s13, s14, s15, s16, s17, s18, s19, s20, s21, s22, s23, s24, s25, s26, s27, s28, s29, s30, s31, s32, rv, .slice (some ⟨b, po, none⟩) n cap, .int .i64 (i : Int), .pointer (some ⟨b, po + i * 2, none⟩), .agg #[.int .i64 x0, .int .i64 y0], .agg #[.int .i64 x1, .int .i64 y1], .int .i64 ln, .slice (some ⟨n7, 0, none⟩) 1 1, r8, s42, s43, s44, s45], defers := [] } W9) :
    Go.Code.wp Try.prog (rg40 9) (Only K_) { tmps := #[.slice (some ⟨b, po, none⟩) n cap, s1, s2, s3, rv, s5, s6, .int .i64 (i : Int), .pointer (some ⟨g, 0, none⟩), s9, s10, s11, s12, s13, s14, s15, s16, s17, s18, s19, s20, s21, s22, s23, s24, s25, s26, s27, s28, s29, s30, s31, s32, s33, s34, s35, s36, s37, s38, s39, s40, s41, s42, s43, s44, s45], defers := [] } V := by
  have HQ := hide hQ
  clear hQ
  obtain ⟨iP, hi1, hy0, hy1, hy2⟩ := info_parts int_info3
  conv => arg 2; whnf
  refine wp_region_inv2 (fun Lb A W => ∃ (u0 u1 u2 u3 u4 u5 u6 u7 u8 u9 : Bool) (n7 : Nat) (r8 : Value), Lb = #[u0, u1, u2, u3, u4, u5, u6, u7, u8, u9] ∧ A = ({ tmps := #[.slice (some ⟨b, po, none⟩) n cap, s1, s2, s3, (bif u9 then r8 else rv), s5, s6, .int .i64 (i : Int), .pointer (some ⟨g, 0, none⟩), s9, s10, s11, s12, s13, s14, s15, s16, s17, s18, s19, s20, s21, s22, s23, s24, s25, s26, s27, s28, s29, s30, s31, s32, (bif u0 then rv else s33), (bif u1 then .slice (some ⟨b, po, none⟩) n cap else s34), (bif u2 then .int .i64 (i : Int) else s35), (bif u3 then .pointer (some ⟨b, po + i * 2, none⟩) else s36), (bif u4 then .agg #[.int .i64 x0, .int .i64 y0] else s37), (bif u5 then .agg #[.int .i64 x1, .int .i64 y1] else s38), (bif u6 then .int .i64 ln else s39), (bif u7 then .slice (some ⟨n7, 0, none⟩) 1 1 else s40), (bif u8 then r8 else s41), s42, s43, s44, s45], defers := [] } : Act) ∧ (u8 = false → Below V.heap.size V W) ∧ (u7 = true → u8 = false → vb W n7 3 [.int .i64 ln]) ∧ (u8 = true → ∃ W1, Below V.heap.size V W1 ∧ Row W B 3 1 r8 (k + 1) (L ++ [ln]) ∧ W1.grownBy W rv.ownBlock ∧ NewBlk W1 rv r8) ∧ (u3 = true → u1 = true ∧ u2 = true) ∧ (u4 = true → u3 = true) ∧ (u6 = true → u4 = true ∧ u5 = true) ∧ (u7 = true → u6 = true) ∧ (u8 = true → u0 = true ∧ u7 = true) ∧ (u9 = true → u0 = true ∧ u1 = true ∧ u2 = true ∧ u3 = true ∧ u4 = true ∧ u5 = true ∧ u6 = true ∧ u7 = true ∧ u8 = true)) (by kernel_rfl) (by kernel_rfl) ?h0 ?hstep ?hend
  case h0 =>
    exact ⟨false, false, false, false, false, false, false, false, false, false, 0, undef, rfl, rfl, (fun _ => Below.drew (Below.refl _ _)), zf, zf, zf, zf, zf, zf, zf, zf⟩
  case hstep =>
    intro Lb A W hI
    obtain ⟨u0, u1, u2, u3, u4, hI⟩ := hI
    obtain ⟨u5, u6, u7, u8, u9, hI⟩ := hI
    obtain ⟨n7, r8, hI⟩ := hI
    obtain ⟨hLb, hI⟩ := hI
    obtain ⟨hA, hI⟩ := hI
    obtain ⟨kB, hI⟩ := hI
    obtain ⟨k7, hI⟩ := hI
    obtain ⟨kZ, hI⟩ := hI
    obtain ⟨l3, hI⟩ := hI
    obtain ⟨l4, hI⟩ := hI
    obtain ⟨l6, hI⟩ := hI
    obtain ⟨l7, hI⟩ := hI
    obtain ⟨l8, hI⟩ := hI
    have kF := hI
    clear hI
    subst hLb
    subst hA
    replace kB := hide kB
    replace k7 := hide k7
    replace kZ := hide kZ
    replace l3 := hide l3
    replace l4 := hide l4
    replace l6 := hide l6
    replace l7 := hide l7
    replace l8 := hide l8
    replace kF := hide kF
    refine ⟨?_, ?_, ?_, ?_, ?_, ?_, ?_, ?_, ?_, ?_, trivial⟩
    · intro h0 hd K hK
      have z : u0 = false := h0
      have z9_ : u9 = false := znb fun hu => z.symm.trans ((zu kF hu).1)
      have z8_ : u8 = false := znb fun hu => z.symm.trans ((zu l8 hu).1)
      subst z9_
      subst z8_
      subst z
      clear h0 hd
      rw [if_pos (by rfl)]
      go_simp
      exact unhide hK _ _ ⟨true, u1, u2, u3, u4, u5, u6, u7, false, false, n7, r8, rfl, rfl, zu kB, zu k7, zf, zu l3, zu l4, zu l6, zu l7, zf, zf⟩
    · intro h0 hd K hK
      have z : u1 = false := h0
      have z9_ : u9 = false := znb fun hu => z.symm.trans ((zu kF hu).2.1)
      have z8_ : u8 = false := znb fun hu => z.symm.trans ((zu l3 (zu l4 (zu l6 (zu l7 (zu l8 hu).2)).1)).1)
      subst z9_
      subst z8_
      subst z
      clear h0 hd
      rw [if_pos (by rfl)]
      go_simp
      exact unhide hK _ _ ⟨u0, true, u2, u3, u4, u5, u6, u7, false, false, n7, r8, rfl, rfl, zu kB, zu k7, zf, (fun h => ⟨rfl, (zu l3 h).2⟩), zu l4, zu l6, zu l7, zf, zf⟩
    · intro h0 hd K hK
      have z : u2 = false := h0
      have z9_ : u9 = false := znb fun hu => z.symm.trans ((zu kF hu).2.2.1)
      have z8_ : u8 = false := znb fun hu => z.symm.trans ((zu l3 (zu l4 (zu l6 (zu l7 (zu l8 hu).2)).1)).2)
      subst z9_
      subst z8_
      subst z
      clear h0 hd
      rw [if_pos (by rfl)]
      go_simp
      exact unhide hK _ _ ⟨u0, u1, true, u3, u4, u5, u6, u7, false, false, n7, r8, rfl, rfl, zu kB, zu k7, zf, (fun h => ⟨(zu l3 h).1, rfl⟩), zu l4, zu l6, zu l7, zf, zf⟩
    · intro h0 hd K hK
      have z : u3 = false := h0
      have z9_ : u9 = false := znb fun hu => z.symm.trans ((zu kF hu).2.2.2.1)
      have z8_ : u8 = false := znb fun hu => z.symm.trans ((zu l4 (zu l6 (zu l7 (zu l8 hu).2)).1))
      have zd : u1 = true ∧ u2 = true := by
        simp [Region.binds] at hd
        simp [hd]
      obtain ⟨rfl, rfl⟩ := zd
      subst z9_
      subst z8_
      subst z
      clear h0 hd
      rw [if_pos (by rfl)]
      have q1 : i < n := unhide HX
      have q2 : (i : Int) < (n : Int) := by omega
      go_simp
      exact unhide hK _ _ ⟨u0, true, true, true, u4, u5, u6, u7, false, false, n7, r8, rfl, rfl, zu kB, zu k7, zf, (fun _ => ⟨rfl, rfl⟩), (fun h => rfl), zu l6, zu l7, zf, zf⟩
    · intro h0 hd K hK
      have z : u4 = false := h0
      have z9_ : u9 = false := znb fun hu => z.symm.trans ((zu kF hu).2.2.2.2.1)
      have z8_ : u8 = false := znb fun hu => z.symm.trans ((zu l6 (zu l7 (zu l8 hu).2)).1)
      have zd : u3 = true := by
        simp [Region.binds] at hd
        simp [hd]
      obtain ⟨rfl⟩ := zd
      subst z9_
      subst z8_
      subst z
      clear h0 hd
      rw [if_pos (by rfl)]
      have c0 := keep1 (zu kB rfl) (unhide HA0)
      have c1 := keep1 (zu kB rfl) (unhide HA1)
      go_simp
      exact unhide hK _ _ ⟨u0, u1, u2, true, true, u5, u6, u7, false, false, n7, r8, rfl, rfl, zu kB, zu k7, zf, zu l3, (fun _ => rfl), (fun h => ⟨rfl, (zu l6 h).2⟩), zu l7, zf, zf⟩
    · intro h0 hd K hK
      have z : u5 = false := h0
      have z9_ : u9 = false := znb fun hu => z.symm.trans ((zu kF hu).2.2.2.2.2.1)
      have z8_ : u8 = false := znb fun hu => z.symm.trans ((zu l6 (zu l7 (zu l8 hu).2)).2)
      subst z9_
      subst z8_
      subst z
      clear h0 hd
      rw [if_pos (by rfl)]
      have c0 := keep1 (zu kB rfl) (unhide HG0)
      have c1 := keep1 (zu kB rfl) (unhide HG1)
      go_simp
      exact unhide hK _ _ ⟨u0, u1, u2, u3, u4, true, u6, u7, false, false, n7, r8, rfl, rfl, zu kB, zu k7, zf, zu l3, zu l4, (fun h => ⟨(zu l6 h).1, rfl⟩), zu l7, zf, zf⟩
    · intro h0 hd K hK
      have z : u6 = false := h0
      have z9_ : u9 = false := znb fun hu => z.symm.trans ((zu kF hu).2.2.2.2.2.2.1)
      have z7_ : u7 = false := znb fun hu => z.symm.trans ((zu l7 hu))
      have z8_ : u8 = false := znb fun hu => z.symm.trans ((zu l7 (zu l8 hu).2))
      have zd : u4 = true ∧ u5 = true := by
        simp [Region.binds] at hd
        simp [hd]
      obtain ⟨rfl, rfl⟩ := zd
      subst z9_
      subst z7_
      subst z8_
      subst z
      clear h0 hd
      rw [if_pos (by rfl)]
      go_simp
      refine (unhide HF W (zu kB rfl)).mono ?_
      rintro e w8 ⟨rfl, hb8⟩
      exact unhide hK _ _ ⟨u0, u1, u2, u3, true, true, true, false, false, false, n7, r8, rfl, rfl, (fun _ => bc (zu kB rfl) hb8), zf, zf, zu l3, zu l4, (fun _ => ⟨rfl, rfl⟩), zf, zf, zf⟩
    · intro h0 hd K hK
      have z : u7 = false := h0
      have z9_ : u9 = false := znb fun hu => z.symm.trans ((zu kF hu).2.2.2.2.2.2.2.1)
      have z8_ : u8 = false := znb fun hu => z.symm.trans ((zu l8 hu).2)
      have zd : u6 = true := by
        simp [Region.binds] at hd
        simp [hd]
      obtain ⟨rfl⟩ := zd
      subst z9_
      subst z8_
      subst z
      clear h0 hd
      rw [if_pos (by rfl)]
      go_simp
      exact unhide hK _ _ ⟨u0, u1, u2, u3, u4, u5, true, true, false, false, W.heap.size, r8, rfl, rfl, (fun _ => ba (zu kB rfl) _), (fun _ _ => vb_new W 3 [.int .i64 ln] _ rfl), zf, zu l3, zu l4, zu l6, (fun _ => rfl), zf, zf⟩
    · intro h0 hd K hK
      have z : u8 = false := h0
      have z9_ : u9 = false := znb fun hu => z.symm.trans ((zu kF hu).2.2.2.2.2.2.2.2)
      have zd : u0 = true ∧ u7 = true := by
        simp [Region.binds] at hd
        simp [hd]
      obtain ⟨rfl, rfl⟩ := zd
      subst z9_
      subst z
      clear h0 hd
      rw [if_pos (by rfl)]
      have h7 := zu k7 rfl rfl
      have hb := (zu kB rfl)
      refine wp_append_new W (.tmp 33) (.tmp 40) 23 (by rfl) B 3 iP _ 1 8 Try.underlying23 hi1 hy0 hy1 hy2 rfl (by decide) rv k (L.map (Value.int .i64)) (by rfl) ((unhide HR).below hb) ⟨n7, 0, none⟩ 1 1 ([ln].map (Value.int .i64)) (by rfl) (by rfl) (src_vb h7) ints_one (by unfold maxLen; omega) (by omega) (Nat.le_trans hBV hb.size) ?_
      intro r8' w1 hown' hgrow _ hnb
      have R : Row w1 B 3 1 r8' (k + 1) (L ++ [ln]) := by unfold Row; rw [List.map_append]; exact hown'
      exact unhide hK _ _ ⟨true, u1, u2, u3, u4, u5, u6, true, true, false, n7, r8', rfl, rfl, zt, (fun _ => zt), (fun _ => ⟨W, hb, R, hgrow, hnb⟩), zu l3, zu l4, zu l6, zu l7, (fun _ => ⟨rfl, rfl⟩), zf⟩
    · intro h0 hd K hK
      have z : u9 = false := h0
      have zd0 : u0 = true ∧ u1 = true ∧ u2 = true ∧ u3 = true ∧ u4 = true ∧ u5 = true ∧ u6 = true ∧ u7 = true ∧ u8 = true := by
        simp [Region.binds] at hd
        simp [hd]
      have zd : u0 = true ∧ u1 = true ∧ u2 = true ∧ u3 = true ∧ u4 = true ∧ u5 = true ∧ u6 = true ∧ u7 = true ∧ u8 = true := ⟨zd0.1, zd0.2.1, zd0.2.2.1, zd0.2.2.2.1, zd0.2.2.2.2.1, zd0.2.2.2.2.2.1, zd0.2.2.2.2.2.2.1, zd0.2.2.2.2.2.2.2.1, zd0.2.2.2.2.2.2.2.2⟩
      obtain ⟨rfl, rfl, rfl, rfl, rfl, rfl, rfl, rfl, rfl⟩ := zd
      subst z
      clear h0 hd
      rw [if_pos (by rfl)]
      go_simp
      exact unhide hK _ _ ⟨true, true, true, true, true, true, true, true, true, true, n7, r8, rfl, rfl, zu kB, (fun _ => zt), zu kZ, (fun _ => ⟨rfl, rfl⟩), (fun _ => rfl), (fun _ => ⟨rfl, rfl⟩), (fun _ => rfl), (fun _ => ⟨rfl, rfl⟩), (fun _ => ⟨rfl, rfl, rfl, rfl, rfl, rfl, rfl, rfl, rfl⟩)⟩
  case hend =>
    intro Lb A W hI
    obtain ⟨u0, u1, u2, u3, u4, hI⟩ := hI
    obtain ⟨u5, u6, u7, u8, u9, hI⟩ := hI
    obtain ⟨n7, r8, hI⟩ := hI
    obtain ⟨hLb, hI⟩ := hI
    obtain ⟨hA, hI⟩ := hI
    obtain ⟨kB, hI⟩ := hI
    obtain ⟨k7, hI⟩ := hI
    obtain ⟨kZ, hI⟩ := hI
    obtain ⟨l3, hI⟩ := hI
    obtain ⟨l4, hI⟩ := hI
    obtain ⟨l6, hI⟩ := hI
    obtain ⟨l7, hI⟩ := hI
    obtain ⟨l8, hI⟩ := hI
    have kF := hI
    clear hI
    subst hLb
    subst hA
    intro hL
    have hl : u0 = true ∧ u1 = true ∧ u2 = true ∧ u3 = true ∧ u4 = true ∧ u5 = true ∧ u6 = true ∧ u7 = true ∧ u8 = true ∧ u9 = true := by
      have h2 := congrArg Array.toList hL
      simpa [List.replicate] using h2
    obtain ⟨rfl, rfl, rfl, rfl, rfl, rfl, rfl, rfl, rfl, rfl⟩ := hl
    obtain ⟨W1, z1, z2, z3, z4⟩ := kZ rfl
    exact unhide HQ n7 r8 W1 W z1 z2 z3 z4

end Go.Proofs.Ytimkinpbimangaa
