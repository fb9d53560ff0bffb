/-
  The model's code of a strip's width and its plates.
-/
import Derived.Test.YtoidhlackoigkaaNsCo
import Derived.Test.YtoidhlackoigkaaInv2
namespace Go.Proofs.Ytoidhlackoigkaa
open Go.ChangeShapes Go.WideShapes Go.ChangeAt Go.RowKit
set_option linter.unusedVariables false
set_option linter.unusedSimpArgs false

noncomputable def rg21 (id : Nat) : Go.Code := match Try.f21.body with | some c => (regOfZ id c).getD .skip | none => .skip
set_option maxHeartbeats 4000000 in
set_option maxRecDepth 100000 in
theorem pc8 {s0 s2 s3 s4 s6 s7 s8 s9 s10 s11 s12 s13 s14 s15 s16 s17 s18 s19 s20 s21 s22 s23 s24 s25 s26 s27 s28 s29 s30 s31 s32 s33 s34 s35 s36 s37 s38 s39 s40 s41 s42 s43 s44 s45 s46 s47 s48 s49 s50 s51 s52 s53 s54 s55 s56 s57 s58 s59 s60 s61 : Value} {b po n cap i : Nat} {x0 y0 : Int} {ok : Bool} {V : World} {K_ : Act → World → Prop} 
    (HA0 : Hid (V.cell? ⟨b, po + i * 2, none⟩ = some (.int .i64 (x0)))) (HA1 : Hid (V.cell? ⟨b, po + i * 2 + 1, none⟩ = some (.int .i64 (y0)))) 
    (HX2 : Hid (i < n))
    (HX7 : Hid (i < n))
    (HF11 : Hid (∀ n10 : Nat, ∀ Xw, Below V.heap.size V Xw → vb Xw n10 3 [.int .i64 (x0), .int .i64 (y0)] → Calls Try.prog 35 #[.slice (some ⟨n10, 0, none⟩) 2 2, .int .i64 (1), .int .i64 (1000)] Xw fun e w' => e = .returned (.bool (ok)) ∧ Below Xw.heap.size Xw w'))
    (hQ : ∀ (n10 : Nat)  (W1 : World), Below V.heap.size V W1 → vb W1 n10 3 [.int .i64 (x0), .int .i64 (y0)] → V.heap.size ≤ n10 → K_ { tmps := #[s0, .slice (some ⟨b, po, none⟩) n cap, s2, s3, s4, .int .i64 (i : Int), s6, s7, s8, s9, s10, s11, s12, s13, s14, s15, s16, s17, s18, s19, s20, s21, s22, s23, s24, s25, s26, .slice (some ⟨b, po, none⟩) n cap, .int .i64 (i : Int), .pointer (some ⟨b, po + i * 2, none⟩), .pointer (some ⟨b, po + i * 2, none⟩), .int .i64 (x0), .slice (some ⟨b, po, none⟩) n cap, .int .i64 (i : Int), .pointer (some ⟨b, po + i * 2, none⟩), .pointer (some ⟨b, po + i * 2 + 1, none⟩), .int .i64 (y0), .slice (some ⟨n10, 0, none⟩) 2 2, .bool (ok), .bool (!ok), s40, s41, s42, s43, s44, s45, s46, s47, s48, s49, s50, s51, s52, s53, s54, s55, s56, s57, s58, s59, s60, s61], defers := [] } W1) :
    Go.Code.wp Try.prog (rg21 8) (Only K_) { tmps := #[s0, .slice (some ⟨b, po, none⟩) n cap, s2, s3, s4, .int .i64 (i : Int), s6, s7, s8, s9, s10, s11, s12, s13, s14, s15, s16, s17, s18, s19, s20, s21, s22, s23, s24, s25, s26, s27, s28, s29, s30, s31, s32, s33, s34, s35, s36, s37, s38, s39, s40, s41, s42, s43, s44, s45, s46, s47, s48, s49, s50, s51, s52, s53, s54, s55, s56, s57, s58, s59, s60, s61], defers := [] } V := by
  have HQ := hide hQ
  clear hQ
  conv => arg 2; whnf
  refine wp_region_inv2 (fun Lb A W => ∃ (u0 u1 u2 u3 u4 u5 u6 u7 u8 u9 u10 u11 u12 : Bool) (n10 : Nat), Lb = #[u0, u1, u2, u3, u4, u5, u6, u7, u8, u9, u10, u11, u12] ∧ A = ({ tmps := #[s0, .slice (some ⟨b, po, none⟩) n cap, s2, s3, s4, .int .i64 (i : Int), s6, s7, s8, s9, s10, s11, s12, s13, s14, s15, s16, s17, s18, s19, s20, s21, s22, s23, s24, s25, s26, (bif u0 then .slice (some ⟨b, po, none⟩) n cap else s27), (bif u1 then .int .i64 (i : Int) else s28), (bif u2 then .pointer (some ⟨b, po + i * 2, none⟩) else s29), (bif u3 then .pointer (some ⟨b, po + i * 2, none⟩) else s30), (bif u4 then .int .i64 (x0) else s31), (bif u5 then .slice (some ⟨b, po, none⟩) n cap else s32), (bif u6 then .int .i64 (i : Int) else s33), (bif u7 then .pointer (some ⟨b, po + i * 2, none⟩) else s34), (bif u8 then .pointer (some ⟨b, po + i * 2 + 1, none⟩) else s35), (bif u9 then .int .i64 (y0) else s36), (bif u10 then .slice (some ⟨n10, 0, none⟩) 2 2 else s37), (bif u11 then .bool (ok) else s38), (bif u12 then .bool (!ok) else s39), s40, s41, s42, s43, s44, s45, s46, s47, s48, s49, s50, s51, s52, s53, s54, s55, s56, s57, s58, s59, s60, s61], defers := [] } : Act) ∧ Below V.heap.size V W ∧ (u10 = true → vb W n10 3 [.int .i64 (x0), .int .i64 (y0)] ∧ V.heap.size ≤ n10) ∧ (u2 = true → u0 = true ∧ u1 = true) ∧ (u3 = true → u2 = true) ∧ (u4 = true → u3 = true) ∧ (u7 = true → u5 = true ∧ u6 = true) ∧ (u8 = true → u7 = true) ∧ (u9 = true → u8 = true) ∧ (u10 = true → u4 = true ∧ u9 = true) ∧ (u11 = true → u10 = true) ∧ (u12 = true → u0 = true ∧ u1 = true ∧ u2 = true ∧ u3 = true ∧ u4 = true ∧ u5 = true ∧ u6 = true ∧ u7 = true ∧ u8 = true ∧ u9 = true ∧ u10 = true ∧ u11 = true)) (by kernel_rfl) (by kernel_rfl) ?h0 ?hstep ?hend
  case h0 =>
    exact ⟨false, false, false, false, false, false, false, false, false, false, false, false, false, 0, rfl, rfl, Below.drew (Below.refl _ _), zf, zf, zf, zf, zf, zf, zf, zf, zf, zf⟩
  case hstep =>
    intro Lb A W hI
    obtain ⟨u0, u1, u2, u3, u4, hI⟩ := hI
    obtain ⟨u5, u6, u7, u8, u9, hI⟩ := hI
    obtain ⟨u10, u11, u12, n10, hI⟩ := hI
    obtain ⟨hLb, hI⟩ := hI
    obtain ⟨hA, hI⟩ := hI
    obtain ⟨kB, hI⟩ := hI
    obtain ⟨k10, hI⟩ := hI
    obtain ⟨l2, hI⟩ := hI
    obtain ⟨l3, hI⟩ := hI
    obtain ⟨l4, hI⟩ := hI
    obtain ⟨l7, hI⟩ := hI
    obtain ⟨l8, hI⟩ := hI
    obtain ⟨l9, hI⟩ := hI
    obtain ⟨l10, hI⟩ := hI
    obtain ⟨l11, hI⟩ := hI
    have kF := hI
    clear hI
    subst hLb
    subst hA
    replace kB := hide kB
    replace k10 := hide k10
    replace l2 := hide l2
    replace l3 := hide l3
    replace l4 := hide l4
    replace l7 := hide l7
    replace l8 := hide l8
    replace l9 := hide l9
    replace l10 := hide l10
    replace l11 := hide l11
    replace kF := hide kF
    refine ⟨?_, ?_, ?_, ?_, ?_, ?_, ?_, ?_, ?_, ?_, ?_, ?_, ?_, trivial⟩
    · intro h0 hd K hK
      have z : u0 = false := h0
      have z12_ : u12 = false := znb fun hu => z.symm.trans ((zu kF hu).1)
      subst z12_
      subst z
      clear h0 hd
      rw [if_pos (by rfl)]
      go_simp
      exact unhide hK _ _ ⟨true, u1, u2, u3, u4, u5, u6, u7, u8, u9, u10, u11, false, n10, rfl, rfl, zu kB, zu k10, (fun h => ⟨rfl, (zu l2 h).2⟩), zu l3, zu l4, zu l7, zu l8, zu l9, zu l10, zu l11, zf⟩
    · intro h0 hd K hK
      have z : u1 = false := h0
      have z12_ : u12 = false := znb fun hu => z.symm.trans ((zu kF hu).2.1)
      subst z12_
      subst z
      clear h0 hd
      rw [if_pos (by rfl)]
      go_simp
      exact unhide hK _ _ ⟨u0, true, u2, u3, u4, u5, u6, u7, u8, u9, u10, u11, false, n10, rfl, rfl, zu kB, zu k10, (fun h => ⟨(zu l2 h).1, rfl⟩), zu l3, zu l4, zu l7, zu l8, zu l9, zu l10, zu l11, zf⟩
    · intro h0 hd K hK
      have z : u2 = false := h0
      have z12_ : u12 = false := znb fun hu => z.symm.trans ((zu kF hu).2.2.1)
      have zd : u0 = true ∧ u1 = true := by
        simp [Region.binds] at hd
        simp [hd]
      obtain ⟨rfl, rfl⟩ := zd
      subst z12_
      subst z
      clear h0 hd
      rw [if_pos (by rfl)]
      have q1 : i < n := unhide HX2
      have q2 : (i : Int) < (n : Int) := by omega
      go_simp
      exact unhide hK _ _ ⟨true, true, true, u3, u4, u5, u6, u7, u8, u9, u10, u11, false, n10, rfl, rfl, zu kB, zu k10, (fun _ => ⟨rfl, rfl⟩), (fun h => rfl), zu l4, zu l7, zu l8, zu l9, zu l10, zu l11, zf⟩
    · intro h0 hd K hK
      have z : u3 = false := h0
      have z12_ : u12 = false := znb fun hu => z.symm.trans ((zu kF hu).2.2.2.1)
      have zd : u2 = true := by
        simp [Region.binds] at hd
        simp [hd]
      obtain ⟨rfl⟩ := zd
      subst z12_
      subst z
      clear h0 hd
      rw [if_pos (by rfl)]
      go_simp
      exact unhide hK _ _ ⟨u0, u1, true, true, u4, u5, u6, u7, u8, u9, u10, u11, false, n10, rfl, rfl, zu kB, zu k10, zu l2, (fun _ => rfl), (fun h => rfl), zu l7, zu l8, zu l9, zu l10, zu l11, zf⟩
    · intro h0 hd K hK
      have z : u4 = false := h0
      have z12_ : u12 = false := znb fun hu => z.symm.trans ((zu kF hu).2.2.2.2.1)
      have zd : u3 = true := by
        simp [Region.binds] at hd
        simp [hd]
      obtain ⟨rfl⟩ := zd
      subst z12_
      subst z
      clear h0 hd
      rw [if_pos (by rfl)]
      have c0 := keep1 (zu kB) (unhide HA0)
      go_simp
      exact unhide hK _ _ ⟨u0, u1, u2, true, true, u5, u6, u7, u8, u9, u10, u11, false, n10, rfl, rfl, zu kB, zu k10, zu l2, zu l3, (fun _ => rfl), zu l7, zu l8, zu l9, (fun h => ⟨rfl, (zu l10 h).2⟩), zu l11, zf⟩
    · intro h0 hd K hK
      have z : u5 = false := h0
      have z12_ : u12 = false := znb fun hu => z.symm.trans ((zu kF hu).2.2.2.2.2.1)
      subst z12_
      subst z
      clear h0 hd
      rw [if_pos (by rfl)]
      go_simp
      exact unhide hK _ _ ⟨u0, u1, u2, u3, u4, true, u6, u7, u8, u9, u10, u11, false, n10, rfl, rfl, zu kB, zu k10, zu l2, zu l3, zu l4, (fun h => ⟨rfl, (zu l7 h).2⟩), zu l8, zu l9, zu l10, zu l11, zf⟩
    · intro h0 hd K hK
      have z : u6 = false := h0
      have z12_ : u12 = false := znb fun hu => z.symm.trans ((zu kF hu).2.2.2.2.2.2.1)
      subst z12_
      subst z
      clear h0 hd
      rw [if_pos (by rfl)]
      go_simp
      exact unhide hK _ _ ⟨u0, u1, u2, u3, u4, u5, true, u7, u8, u9, u10, u11, false, n10, rfl, rfl, zu kB, zu k10, zu l2, zu l3, zu l4, (fun h => ⟨(zu l7 h).1, rfl⟩), zu l8, zu l9, zu l10, zu l11, zf⟩
    · intro h0 hd K hK
      have z : u7 = false := h0
      have z12_ : u12 = false := znb fun hu => z.symm.trans ((zu kF hu).2.2.2.2.2.2.2.1)
      have zd : u5 = true ∧ u6 = true := by
        simp [Region.binds] at hd
        simp [hd]
      obtain ⟨rfl, rfl⟩ := zd
      subst z12_
      subst z
      clear h0 hd
      rw [if_pos (by rfl)]
      have q1 : i < n := unhide HX7
      have q2 : (i : Int) < (n : Int) := by omega
      go_simp
      exact unhide hK _ _ ⟨u0, u1, u2, u3, u4, true, true, true, u8, u9, u10, u11, false, n10, rfl, rfl, zu kB, zu k10, zu l2, zu l3, zu l4, (fun _ => ⟨rfl, rfl⟩), (fun h => rfl), zu l9, zu l10, zu l11, zf⟩
    · intro h0 hd K hK
      have z : u8 = false := h0
      have z12_ : u12 = false := znb fun hu => z.symm.trans ((zu kF hu).2.2.2.2.2.2.2.2.1)
      have zd : u7 = true := by
        simp [Region.binds] at hd
        simp [hd]
      obtain ⟨rfl⟩ := zd
      subst z12_
      subst z
      clear h0 hd
      rw [if_pos (by rfl)]
      go_simp
      exact unhide hK _ _ ⟨u0, u1, u2, u3, u4, u5, u6, true, true, u9, u10, u11, false, n10, rfl, rfl, zu kB, zu k10, zu l2, zu l3, zu l4, zu l7, (fun _ => rfl), (fun h => rfl), zu l10, zu l11, zf⟩
    · intro h0 hd K hK
      have z : u9 = false := h0
      have z12_ : u12 = false := znb fun hu => z.symm.trans ((zu kF hu).2.2.2.2.2.2.2.2.2.1)
      have zd : u8 = true := by
        simp [Region.binds] at hd
        simp [hd]
      obtain ⟨rfl⟩ := zd
      subst z12_
      subst z
      clear h0 hd
      rw [if_pos (by rfl)]
      have c0 := keep1 (zu kB) (unhide HA1)
      go_simp
      exact unhide hK _ _ ⟨u0, u1, u2, u3, u4, u5, u6, u7, true, true, u10, u11, false, n10, rfl, rfl, zu kB, zu k10, zu l2, zu l3, zu l4, zu l7, zu l8, (fun _ => rfl), (fun h => ⟨(zu l10 h).1, rfl⟩), zu l11, zf⟩
    · intro h0 hd K hK
      have z : u10 = false := h0
      have z12_ : u12 = false := znb fun hu => z.symm.trans ((zu kF hu).2.2.2.2.2.2.2.2.2.2.1)
      have zd : u4 = true ∧ u9 = true := by
        simp [Region.binds] at hd
        simp [hd]
      obtain ⟨rfl, rfl⟩ := zd
      subst z12_
      subst z
      clear h0 hd
      rw [if_pos (by rfl)]
      go_simp
      exact unhide hK _ _ ⟨u0, u1, u2, u3, true, u5, u6, u7, u8, true, true, u11, false, W.heap.size, rfl, rfl, ba (zu kB) _, (fun _ => ⟨vb_new W 3 _ _ rfl, (zu kB).size⟩), zu l2, zu l3, zu l4, zu l7, zu l8, zu l9, (fun _ => ⟨rfl, rfl⟩), (fun h => rfl), zf⟩
    · intro h0 hd K hK
      have z : u11 = false := h0
      have z12_ : u12 = false := znb fun hu => z.symm.trans ((zu kF hu).2.2.2.2.2.2.2.2.2.2.2)
      have zd : u10 = true := by
        simp [Region.binds] at hd
        simp [hd]
      obtain ⟨rfl⟩ := zd
      subst z12_
      subst z
      clear h0 hd
      rw [if_pos (by rfl)]
      go_simp
      refine (unhide HF11 _ W (zu kB) (zu k10 rfl).1).mono ?_
      rintro e w8 ⟨rfl, hb8⟩
      exact unhide hK _ _ ⟨u0, u1, u2, u3, u4, u5, u6, u7, u8, u9, true, true, false, n10, rfl, rfl, bc (zu kB) hb8, (fun h => ⟨(zu k10 h).1.bel hb8, (zu k10 h).2⟩), zu l2, zu l3, zu l4, zu l7, zu l8, zu l9, zu l10, (fun _ => rfl), zf⟩
    · intro h0 hd K hK
      have z : u12 = false := h0
      have zd0 : u11 = true := by
        simp [Region.binds] at hd
        simp [hd]
      have zd : u11 = true ∧ u0 = true ∧ u1 = true ∧ u2 = true ∧ u3 = true ∧ u4 = true ∧ u5 = true ∧ u6 = true ∧ u7 = true ∧ u8 = true ∧ u9 = true ∧ u10 = true := ⟨zd0, (zu l2 (zu l3 (zu l4 (zu l10 (zu l11 zd0)).1))).1, (zu l2 (zu l3 (zu l4 (zu l10 (zu l11 zd0)).1))).2, (zu l3 (zu l4 (zu l10 (zu l11 zd0)).1)), (zu l4 (zu l10 (zu l11 zd0)).1), (zu l10 (zu l11 zd0)).1, (zu l7 (zu l8 (zu l9 (zu l10 (zu l11 zd0)).2))).1, (zu l7 (zu l8 (zu l9 (zu l10 (zu l11 zd0)).2))).2, (zu l8 (zu l9 (zu l10 (zu l11 zd0)).2)), (zu l9 (zu l10 (zu l11 zd0)).2), (zu l10 (zu l11 zd0)).2, (zu l11 zd0)⟩
      obtain ⟨rfl, rfl, rfl, rfl, rfl, rfl, rfl, rfl, rfl, rfl, rfl, rfl⟩ := zd
      subst z
      clear h0 hd
      rw [if_pos (by rfl)]
      go_simp
      exact unhide hK _ _ ⟨true, true, true, true, true, true, true, true, true, true, true, true, true, n10, rfl, rfl, zu kB, zu k10, (fun _ => ⟨rfl, rfl⟩), (fun _ => rfl), (fun _ => rfl), (fun _ => ⟨rfl, rfl⟩), (fun _ => rfl), (fun _ => rfl), (fun _ => ⟨rfl, rfl⟩), (fun _ => rfl), (fun _ => ⟨rfl, rfl, rfl, rfl, rfl, rfl, rfl, rfl, rfl, rfl, rfl, rfl⟩)⟩
  case hend =>
    intro Lb A W hI
    obtain ⟨u0, u1, u2, u3, u4, hI⟩ := hI
    obtain ⟨u5, u6, u7, u8, u9, hI⟩ := hI
    obtain ⟨u10, u11, u12, n10, hI⟩ := hI
    obtain ⟨hLb, hI⟩ := hI
    obtain ⟨hA, hI⟩ := hI
    obtain ⟨kB, hI⟩ := hI
    obtain ⟨k10, hI⟩ := hI
    obtain ⟨l2, hI⟩ := hI
    obtain ⟨l3, hI⟩ := hI
    obtain ⟨l4, hI⟩ := hI
    obtain ⟨l7, hI⟩ := hI
    obtain ⟨l8, hI⟩ := hI
    obtain ⟨l9, hI⟩ := hI
    obtain ⟨l10, hI⟩ := hI
    obtain ⟨l11, hI⟩ := hI
    have kF := hI
    clear hI
    subst hLb
    subst hA
    intro hL
    have hl : u0 = true ∧ u1 = true ∧ u2 = true ∧ u3 = true ∧ u4 = true ∧ u5 = true ∧ u6 = true ∧ u7 = true ∧ u8 = true ∧ u9 = true ∧ u10 = true ∧ u11 = true ∧ u12 = true := by
      have h2 := congrArg Array.toList hL
      simpa [List.replicate] using h2
    obtain ⟨rfl, rfl, rfl, rfl, rfl, rfl, rfl, rfl, rfl, rfl, rfl, rfl, rfl⟩ := hl
    exact unhide HQ n10  W kB (k10 rfl).1 (k10 rfl).2

theorem vb_two {W : World} {g t : Nat} {a b : Int} (h : vb W g t [.int .i64 a, .int .i64 b]) : Its W (some ⟨g, 0, none⟩) g 0 [a, b] := fun _ => ⟨rfl, h.lt, fun j x hj => by
  rw [Nat.zero_add]
  match j, hj with
  | 0, hj => simp at hj; subst hj; exact h.cell rfl
  | 1, hj => simp at hj; subst hj; exact h.cell rfl
  | (k + 2), hj => simp at hj⟩
set_option maxHeartbeats 2000000 in
theorem ncM_any (Wd : Int) (u : Option Addr) (p po n c : Nat) (L : List Pl) (w : World) (hl : L.length = n) (hn : n ≤ 9223372036854775807) (hu : Pls w u p po L) :
    Calls Try.prog 21 #[.int .i64 Wd, .slice u n c] w fun e w' => e = .returned (.int .i64 (nsCode Wd L)) ∧ Below w.heap.size w w' := by
  have HQ : Hid (nsCode Wd L = if 4096 < n then 2 else if (inR 1 1000 Wd && (decide (n ≤ 100) && L.all plOk)) = true then (if L.any (plBig Wd) = true then 5 else 0) else 1) := hide (by unfold nsCode; rw [hl])
  have HU := hide (fun X (hX : Below w.heap.size w X) => hu.bel hX)
  have HL := hide hl
  have n0 : (0 : Int) ≤ (n : Int) := Int.natCast_nonneg _
  clear hl hu
  by_cases h0 : 4096 < n
  · have t0 : decide ((4096 : Int) < (n : Int)) = true := decide_eq_true (by omega)
    go_enter Try.func21, Try.ntmps21
    go_wp2_with fail
    go_ret
    exact ⟨by rw [unhide HQ, if_pos h0]; rfl, Below.refl _ _⟩
  have t0 : decide ((4096 : Int) < (n : Int)) = false := decide_eq_false (by omega)
  by_cases g1 : Wd < 1
  · have t1 : decide (Wd < 1) = true := decide_eq_true g1
    go_enter Try.func21, Try.ntmps21
    go_wp2_with fail
    go_ret
    exact ⟨by rw [unhide HQ, if_neg h0, inR_f1 g1]; rfl, Below.refl _ _⟩
  have t1 : decide (Wd < 1) = false := decide_eq_false g1
  by_cases g2 : 1000 < Wd
  · have t2 : decide (1000 < Wd) = true := decide_eq_true g2
    go_enter Try.func21, Try.ntmps21
    go_wp2_with fail
    go_ret
    exact ⟨by rw [unhide HQ, if_neg h0, inR_f2 g2]; rfl, Below.refl _ _⟩
  have t2 : decide (1000 < Wd) = false := decide_eq_false g2
  by_cases g3 : 100 < n
  · have t3 : decide ((100 : Int) < (n : Int)) = true := decide_eq_true (by omega)
    go_enter Try.func21, Try.ntmps21
    go_wp2_with fail
    go_ret
    exact ⟨by rw [unhide HQ, if_neg h0, decide_eq_false (by omega : ¬ n ≤ 100)]; simp, Below.refl _ _⟩
  have t3 : decide ((100 : Int) < (n : Int)) = false := decide_eq_false (by omega)
  have HI : Hid (inR 1 1000 Wd = true) := hide (inR_iff.2 ⟨by omega, by omega⟩)
  go_enter Try.func21, Try.ntmps21
  go_wp2_with fail
  go_loopw [5] (fun s W => ∃ i : Nat, s = .int .i64 (i : Int) ∧ i ≤ n ∧ (L.take i).any plNo = false ∧ Below w.heap.size w W) (fun s _ => n - (intOf s).toNat)
  case atStart => exact ⟨0, rfl, Nat.zero_le _, by simp, Below.refl _ _⟩
  case round =>
    obtain ⟨i, rfl, hi, ha, hb⟩ := hrel
    have HA := hide ha
    have HB := hide hb
    clear ha
    by_cases h : i < n
    · have i1 : (i : Int) < (n : Int) := by omega
      have i0 : (0 : Int) ≤ (i : Int) := Int.natCast_nonneg _
      have iz : decide ((i : Int) < (n : Int)) = true := decide_eq_true i1
      obtain ⟨s, hx⟩ := get_some (unhide HL) h
      obtain ⟨rfl, pw, k0, k1⟩ := (unhide HU _ hb).at hx
      have HAX := hide (allp_take plNo hx)
      have HX := hide hx
      have HTO : Hid (plNo s = !([s.w, s.h].all (inR 1 1000))) := hide (by simp [plNo, plOk])
      generalize hto : ([s.w, s.h].all (inR 1 1000)) = tq at *
      have HT := hide hto
      clear pw hx hb hto
      go_wp2_with fail
      refine Go.Code.wp_mono (Only.to (fun _ _ h => h)) (pc8 (x0 := s.w) (y0 := s.h) (ok := tq) (hide k0) (hide k1) (hide h) (hide h) (hide (fun g Xw _ hv => by have h9 := wi_any (some ⟨g, 0, none⟩) g 0 2 2 [s.w, s.h] 1 1000 Xw rfl (by omega) (vb_two hv); rw [unhide HT] at h9; exact h9.mono (fun e w' h => ⟨h.1, by rw [h.2]; exact Below.refl _ _⟩))) ?_)
      intro gg W2 hb2 hh1 hh2
      have HB2 := hide (bc (unhide HB) hb2)
      clear hb2 hh1 hh2 k0 k1
      cases tq with
      | true =>
        go_wp2_with fail
        go_roundw
        case rel => first | exact ⟨i + 1, by simp, h, by rw [unhide HAX, unhide HA, unhide HTO]; rfl, unhide HB2⟩ | ((repeat apply Exists.intro); refine ⟨?_, rfl⟩; exact ⟨i + 1, by simp, h, by rw [unhide HAX, unhide HA, unhide HTO]; rfl, unhide HB2⟩)
        case measure => first | (simp only [intOf]; omega) | (simp [intOf]; omega)
      | false =>
        have HY := hide (any_yes plNo (unhide HX) (unhide HTO))
        rw [not_all] at HY
        have HZ : Hid (L.all plOk = false) := hide (by have := unhide HY; simpa using this)
        go_wp2_with fail
        go_ret
        exact ⟨by rw [unhide HQ, if_neg h0, unhide HZ]; simp, unhide HB2⟩
    · have iz : decide ((i : Int) < (n : Int)) = false := decide_eq_false (by omega)
      have HE : Hid (L.any plNo = false) := hide (by have := unhide HA; rwa [List.take_of_length_le (by rw [unhide HL]; omega)] at this)
      rw [not_all] at HE
      have HZ : Hid (L.all plOk = true) := hide (by have := unhide HE; simpa using this)
      have HR : Hid (nsCode Wd L = if L.any (plBig Wd) = true then 5 else 0) := hide (by rw [unhide HQ, if_neg h0, unhide HI, unhide HZ]; simp [(by omega : n ≤ 100)])
      clear hb hi iz HE HZ HA
      go_wp2_with fail
      go_loopw [6] (fun s W => ∃ i : Nat, s = .int .i64 (i : Int) ∧ i ≤ n ∧ (L.take i).any (plBig Wd) = false ∧ Below w.heap.size w W) (fun s _ => n - (intOf s).toNat)
      case atStart => exact ⟨0, rfl, Nat.zero_le _, by simp, unhide HB⟩
      case round =>
        clear HB h
        obtain ⟨i, rfl, hi, ha, hb⟩ := hrel
        have HA := hide ha
        have HB := hide hb
        clear ha
        by_cases h : i < n
        · have i1 : (i : Int) < (n : Int) := by omega
          have i0 : (0 : Int) ≤ (i : Int) := Int.natCast_nonneg _
          have iz : decide ((i : Int) < (n : Int)) = true := decide_eq_true i1
          obtain ⟨s, hx⟩ := get_some (unhide HL) h
          obtain ⟨rfl, pw, k0, k1⟩ := (unhide HU _ hb).at hx
          have HAX := hide (allp_take (plBig Wd) hx)
          have HX := hide hx
          clear pw hx hb
          by_cases c1 : Wd < s.w
          · have z1 : decide (Wd < s.w) = true := decide_eq_true c1
            by_cases c2 : Wd < s.h
            · have z2 : decide (Wd < s.h) = true := decide_eq_true c2
              have HY := hide (any_yes (plBig Wd) (unhide HX) (by unfold plBig; rw [z1, z2]; rfl))
              go_wp2_with fail
              go_ret
              exact ⟨by rw [unhide HR, unhide HY]; rfl, unhide HB⟩
            · have z2 : decide (Wd < s.h) = false := decide_eq_false c2
              have HNO : Hid (plBig Wd s = false) := hide (by unfold plBig; rw [z2]; simp)
              go_wp2_with fail
              go_roundw
              case rel => first | exact ⟨i + 1, by simp, h, by rw [unhide HAX, unhide HA, unhide HNO]; rfl, unhide HB⟩ | ((repeat apply Exists.intro); refine ⟨?_, rfl⟩; exact ⟨i + 1, by simp, h, by rw [unhide HAX, unhide HA, unhide HNO]; rfl, unhide HB⟩)
              case measure => first | (simp only [intOf]; omega) | (simp [intOf]; omega)
          · have z1 : decide (Wd < s.w) = false := decide_eq_false c1
            have HNO : Hid (plBig Wd s = false) := hide (by unfold plBig; rw [z1]; rfl)
            go_wp2_with fail
            go_roundw
            case rel => first | exact ⟨i + 1, by simp, h, by rw [unhide HAX, unhide HA, unhide HNO]; rfl, unhide HB⟩ | ((repeat apply Exists.intro); refine ⟨?_, rfl⟩; exact ⟨i + 1, by simp, h, by rw [unhide HAX, unhide HA, unhide HNO]; rfl, unhide HB⟩)
            case measure => first | (simp only [intOf]; omega) | (simp [intOf]; omega)
        · have iz : decide ((i : Int) < (n : Int)) = false := decide_eq_false (by omega)
          have HE : Hid (L.any (plBig Wd) = false) := hide (by have := unhide HA; rwa [List.take_of_length_le (by rw [unhide HL]; omega)] at this)
          clear hb
          go_wp2_with fail
          go_ret
          exact ⟨by rw [unhide HR, unhide HE]; rfl, unhide HB⟩
end Go.Proofs.Ytoidhlackoigkaa
