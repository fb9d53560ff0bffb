/-
  A drawn stock, part and tool, whatever the code.
-/
import Derived.Test.YtjhldjojkaphkaaJb
import Derived.Test.YtjhldjojkaphkaaPrs
namespace Go.Proofs.Ytjhldjojkaphkaa
open Go.ChangeShapes Go.WideShapes Go.ChangeAt Go.RowKit
set_option linter.unusedVariables false
set_option linter.unusedSimpArgs false

/-- a slice of numbers that a field has -/
def Fq (X : World) (u : Option Addr) (n c : Nat) (L : List Int) : Prop := L.length = n ∧ n ≤ 576 ∧ (n ≠ 0 → ∃ p po, u = some ⟨p, po, none⟩ ∧ Fd X p po n c L)
theorem Fq.bel {X X' : World} {u : Option Addr} {n c : Nat} {L : List Int} (h : Fq X u n c L) (hb : Below X.heap.size X X') : Fq X' u n c L := ⟨h.1, h.2.1, fun h0 => by obtain ⟨p, po, e, hf⟩ := h.2.2 h0; exact ⟨p, po, e, hf.bel hb⟩⟩
theorem Row.fq {X : World} {B n c : Nat} {u : Option Addr} {L : List Int} (h : Row X B 3 1 (.slice u n c) n L) (hn : n ≤ 576) : Fq X u n c L := by
  refine ⟨by have := h.len; omega, hn, fun h0 => ?_⟩
  obtain ⟨q, cap, hv, _⟩ := h.full h0
  cases hv
  exact ⟨q, 0, rfl, h.fd⟩
theorem Row.fq1 {X : World} {B n c q : Nat} {L : List Int} (h : Row X B 3 1 (.slice (some ⟨q, 0, none⟩) n c) n L) (hn : n ≤ 576) (h1 : 1 ≤ n) : Fq X (some ⟨q, 1, none⟩) (n - 1) (c - 1) (L.drop 1) := by
  have hl := h.len
  have hf := h.fd
  refine ⟨by simp; omega, by omega, fun _ => ⟨q, 1, rfl, hf.lt, ?_, by simp; omega, by have := hf.cap; omega, by have := hf.top; omega⟩⟩
  intro j x hj
  rw [List.getElem?_drop] at hj
  have := hf.ints (1 + j) x hj
  rwa [Nat.zero_add] at this
/-- a block of one's own is written, a slice stays -/
theorem Fq.ne {X : World} {u : Option Addr} {n c b o : Nat} {v : Value} {L : List Int} (h : Fq X u n c L) (hb : ∀ a, u = some a → a.block ≠ b) : Fq (X.setCell ⟨b, o, none⟩ v) u n c L := by
  refine ⟨h.1, h.2.1, fun h0 => ?_⟩
  obtain ⟨p, po, e, hf⟩ := h.2.2 h0
  have hne : p ≠ b := hb _ e
  exact ⟨p, po, e, by simpa [World.setCell] using hf.lt, fun j x hj => (World.cell?_of_block (w := X) (a := ⟨p, po + j, none⟩) (Below.heap_setCell _ _ _ _ hne)).trans (hf.ints j x hj), hf.len, hf.cap, hf.top⟩
/-- what the drawing ends with -/
structure Jend (w : World) (B g : Nat) (k : Int) (b7 : Nat) (Wp Hp : Int) (up : Option Addr) (np cp : Nat) (P : List Int) (Ws Hs : Int) (us : Option Addr) (ns cs : Nat) (S : List Int) (X : World) : Prop where
  so : So B g k X
  mv : Mv g w X
  hg : g < w.heap.size
  v2 : vb X w.heap.size 25 [.int .i64 0, .int .i64 0, .slice none 0 0]
  v3 : vb X (w.heap.size + 1) 25 [.int .i64 0, .int .i64 0, .slice none 0 0]
  v7 : vb X b7 25 [.int .i64 Wp, .int .i64 Hp, .slice up np cp]
  v8 : vb X (b7 + 1) 25 [.int .i64 Ws, .int .i64 Hs, .slice us ns cs]
  fp : Fq X up np cp P
  fs : Fq X us ns cs S
  bp : ∀ a, up = some a → w.heap.size + 2 ≤ a.block
  bs : ∀ a, us = some a → w.heap.size + 2 ≤ a.block
  h7 : w.heap.size + 2 ≤ b7
theorem own_ub {u : Option Addr} {n c : Nat} {X : World} {B : Nat} {L : List Int} (h : Row X B 3 1 (.slice u n c) n L) : ∀ a, u = some a → B ≤ a.block := fun a ha => (World.ownsRow.lt h a.block (by rw [ha]; rfl)).1
theorem Jz.fin {w : World} {B g b7 q np cp ns cs : Nat} {k Wp Hp Ws Hs : Int} {us : Option Addr} {P S : List Int} {X : World} (h : Jz w B g k b7 Wp Hp q np cp P Ws Hs us ns cs S X) (h1 : np ≤ 576) (h2 : ns ≤ 576) : Jend w B g k b7 Wp Hp (some ⟨q, 0, none⟩) np cp P Ws Hs us ns cs S X :=
  ⟨h.so, h.mv, h.hg, h.v2, h.v3, h.v7, h.v8, h.rp.fq h1, h.rs.fq h2, own_ub h.rp, fun a ha => Nat.le_trans (by have := h.h7; omega) (own_ub h.rs a ha), h.h7⟩
theorem Jend.up {w : World} {B g b7 np cp ns cs : Nat} {k Wp Hp Ws Hs : Int} {us up : Option Addr} {P S : List Int} {X : World} {k' : Int} (h : Jend w B g k b7 Wp Hp up np cp P Ws Hs us ns cs S X) (hk : k ≤ k') : Jend w B g k' b7 Wp Hp up np cp P Ws Hs us ns cs S X := ⟨h.so.up hk, h.mv, h.hg, h.v2, h.v3, h.v7, h.v8, h.fp, h.fs, h.bp, h.bs, h.h7⟩
theorem Jend.setW {w : World} {B g b7 np cp ns cs : Nat} {k Wp Hp Ws Hs : Int} {us : Option Addr} {P S : List Int} {X : World} {q : Nat} (h : Jend w B g k b7 Wp Hp (some ⟨q, 0, none⟩) np cp P Ws Hs us ns cs S X) (hq0 : w.heap.size + 2 ≤ q) (hq : q < b7) (hu : ∀ a, us = some a → b7 + 2 ≤ a.block) (x : Int) : Jend w B g k b7 Wp Hp (some ⟨q, 0, none⟩) np cp P x Hs us ns cs S (X.setCell ⟨b7 + 1, 0, none⟩ (.int .i64 x)) := by
  have hg := h.hg; have h7 := h.h7; have hB := h.so.above
  exact ⟨h.so.set (by omega) (by omega) _ _, h.mv.new (by omega) _ _, hg, h.v2.ne (by omega), h.v3.ne (by omega), h.v7.ne (by omega), h.v8.set 0 _, h.fp.ne (fun a ha => by cases ha; show q ≠ b7 + 1; omega), h.fs.ne (fun a ha => by have := hu a ha; omega), h.bp, h.bs, h7⟩
theorem Jend.setH {w : World} {B g b7 np cp ns cs : Nat} {k Wp Hp Ws Hs : Int} {us : Option Addr} {P S : List Int} {X : World} {q : Nat} (h : Jend w B g k b7 Wp Hp (some ⟨q, 0, none⟩) np cp P Ws Hs us ns cs S X) (hq0 : w.heap.size + 2 ≤ q) (hq : q < b7) (hu : ∀ a, us = some a → b7 + 2 ≤ a.block) (x : Int) : Jend w B g k b7 Wp x (some ⟨q, 0, none⟩) np cp P Ws Hs us ns cs S (X.setCell ⟨b7, 1, none⟩ (.int .i64 x)) := by
  have hg := h.hg; have h7 := h.h7; have hB := h.so.above
  exact ⟨h.so.set (by omega) (by omega) _ _, h.mv.new (by omega) _ _, hg, h.v2.ne (by omega), h.v3.ne (by omega), h.v7.set 1 _, h.v8.ne (by omega), h.fp.ne (fun a ha => by cases ha; show q ≠ b7; omega), h.fs.ne (fun a ha => by have := hu a ha; omega), h.bp, h.bs, h7⟩
theorem Jend.setS {w : World} {B g b7 np cp ns cs q qs : Nat} {k Wp Hp Ws Hs : Int} {P S : List Int} {X : World} (h : Jend w B g k b7 Wp Hp (some ⟨q, 0, none⟩) np cp P Ws Hs (some ⟨qs, 0, none⟩) ns cs S X) (hr : Row X (b7 + 2) 3 1 (.slice (some ⟨qs, 0, none⟩) ns cs) ns S) (hn : ns ≤ 576) (h1 : 1 ≤ ns) (hqs : b7 + 2 ≤ qs) (hq : q < b7) : Jend w B g k b7 Wp Hp (some ⟨q, 0, none⟩) np cp P Ws Hs (some ⟨qs, 1, none⟩) (ns - 1) (cs - 1) (S.drop 1) (X.setCell ⟨b7 + 1, 2, none⟩ (.slice (some ⟨qs, 1, none⟩) (ns - 1) (cs - 1))) := by
  have hg := h.hg; have h7 := h.h7; have hB := h.so.above
  have hq2 := h.bp _ rfl
  exact ⟨h.so.set (by omega) (by omega) _ _, h.mv.new (by omega) _ _, hg, h.v2.ne (by omega), h.v3.ne (by omega), h.v7.ne (by omega), h.v8.set 2 _, h.fp.ne (fun a ha => by cases ha; show q ≠ b7 + 1; omega), (hr.fq1 hn h1).ne (fun a ha => by cases ha; show qs ≠ b7 + 1; omega), h.bp, fun a ha => by cases ha; show w.heap.size + 2 ≤ qs; omega, h7⟩
theorem Jend.setN {w : World} {B g b7 np cp ns cs q qs : Nat} {k Wp Hp Ws Hs : Int} {P S : List Int} {X : World} (h : Jend w B g k b7 Wp Hp (some ⟨q, 0, none⟩) np cp P Ws Hs (some ⟨qs, 0, none⟩) ns cs S X) (hr : Row X (b7 + 2) 3 1 (.slice (some ⟨qs, 0, none⟩) ns cs) ns S) (hn : ns ≤ 576) (h1 : ns = 1) (hqs : b7 + 2 ≤ qs) (hq : q < b7) : Jend w B g k b7 Wp Hp (some ⟨q, 0, none⟩) np cp P Ws Hs (some ⟨qs, 0, none⟩) (ns - 1) 0 (S.drop 1) (X.setCell ⟨b7 + 1, 2, none⟩ (.slice (some ⟨qs, 0, none⟩) (ns - 1) 0)) := by
  have hg := h.hg; have h7 := h.h7; have hB := h.so.above
  have hq2 := h.bp _ rfl
  have hl := hr.len
  exact ⟨h.so.set (by omega) (by omega) _ _, h.mv.new (by omega) _ _, hg, h.v2.ne (by omega), h.v3.ne (by omega), h.v7.ne (by omega), h.v8.set 2 _, h.fp.ne (fun a ha => by cases ha; show q ≠ b7 + 1; omega), ⟨by simp; omega, by omega, fun h0 => absurd (by omega) h0⟩, h.bp, fun a ha => by cases ha; show w.heap.size + 2 ≤ qs; omega, h7⟩
def JQ (w : World) (B g : Nat) (k : Int) (e : Ending) (w' : World) : Prop := ∃ (Ws Hs : Int) (us : Option Addr) (ns cs : Nat) (S : List Int) (Wp Hp : Int) (up : Option Addr) (np cp : Nat) (P : List Int) (R : Int),
  e = .returned (.tuple #[.agg #[.int .i64 Ws, .int .i64 Hs, .slice us ns cs], .agg #[.int .i64 Wp, .int .i64 Hp, .slice up np cp], .int .i64 R]) ∧ Fq w' us ns cs S ∧ Fq w' up np cp P ∧ So B g (k + 9000) w' ∧ Mv g w w' ∧ (∀ a, us = some a → w.heap.size ≤ a.block) ∧ (∀ a, up = some a → w.heap.size ≤ a.block)
set_option maxHeartbeats 4000000 in
set_option maxRecDepth 100000 in
theorem jb21 {s0 s1 s4 s5 s6 s9 s11 s12 s13 s14 s15 s16 s17 s18 s19 s20 s21 s22 s23 s24 s25 s26 s27 s28 s29 s30 s31 s32 s33 s34 s35 s36 s37 s38 s39 s40 s41 s42 s43 s44 s45 s46 s47 s48 s49 s50 s51 s52 s53 s54 s55 s56 s57 s58 s59 s60 s61 s62 s63 s64 s65 s66 s67 s68 s69 s70 s71 s72 s73 s74 s75 s76 s77 s78 s79 s80 s81 s82 s83 s84 s85 s86 s87 s88 s89 s90 s91 s92 s93 s94 s95 s96 : Value} {w V : World} {B g b7 np cp ns cs : Nat} {k Wp Hp Ws Hs R : Int} {us up : Option Addr} {P S : List Int} {K_ : Act → World → Prop}
    (H2 : Hid (Jend w B g k b7 Wp Hp up np cp P Ws Hs us ns cs S V))
    (hQ : ∀ (y94 y95 y96 : Value) (W' : World), So B g k W' → Mv g w W' → Fq W' up np cp P → Fq W' us ns cs S → vb W' w.heap.size 25 [.int .i64 Ws, .int .i64 Hs, .slice us ns cs] → vb W' (w.heap.size + 1) 25 [.int .i64 Wp, .int .i64 Hp, .slice up np cp] → K_ { tmps := #[s0, s1, .pointer (some ⟨w.heap.size, 0, none⟩), .pointer (some ⟨w.heap.size + 1, 0, none⟩), .int .i64 (R), s5, s6, .pointer (some ⟨b7, 0, none⟩), .pointer (some ⟨b7 + 1, 0, none⟩), s9, .int .i64 (R), s11, s12, s13, s14, s15, s16, s17, s18, s19, s20, s21, s22, s23, s24, s25, s26, s27, s28, s29, s30, s31, s32, s33, s34, s35, s36, s37, s38, s39, s40, s41, s42, s43, s44, s45, s46, s47, s48, s49, s50, s51, s52, s53, s54, s55, s56, s57, s58, s59, s60, s61, s62, s63, s64, s65, s66, s67, s68, s69, s70, s71, s72, s73, s74, s75, s76, s77, s78, s79, s80, s81, s82, s83, s84, s85, s86, s87, s88, s89, s90, s91, s92, s93, y94, y95, y96], defers := [] } W') :
    Go.Code.wp Try.prog (reg34 21) (Only K_) { tmps := #[s0, s1, .pointer (some ⟨w.heap.size, 0, none⟩), .pointer (some ⟨w.heap.size + 1, 0, none⟩), s4, s5, s6, .pointer (some ⟨b7, 0, none⟩), .pointer (some ⟨b7 + 1, 0, none⟩), s9, .int .i64 (R), s11, s12, s13, s14, s15, s16, s17, s18, s19, s20, s21, s22, s23, s24, s25, s26, s27, s28, s29, s30, s31, s32, s33, s34, s35, s36, s37, s38, s39, s40, s41, s42, s43, s44, s45, s46, s47, s48, s49, s50, s51, s52, s53, s54, s55, s56, s57, s58, s59, s60, s61, s62, s63, s64, s65, s66, s67, s68, s69, s70, s71, s72, s73, s74, s75, s76, s77, s78, s79, s80, s81, s82, s83, s84, s85, s86, s87, s88, s89, s90, s91, s92, s93, s94, s95, s96], defers := [] } V := by
  have HQ := hide hQ
  have hg := (unhide H2).hg
  have hB := (unhide H2).so.above
  have h7 := (unhide H2).h7
  have l0 : B ≤ w.heap.size := by omega
  have l1 : B ≤ w.heap.size + 1 := by omega
  have g0 : w.heap.size ≠ g := by omega
  have g1 : w.heap.size + 1 ≠ g := by omega
  have m0 : w.heap.size ≤ w.heap.size := Nat.le_refl _
  have m1 : w.heap.size ≤ w.heap.size + 1 := Nat.le_succ _
  have n70 : b7 ≠ w.heap.size := by omega
  have n71 : b7 ≠ w.heap.size + 1 := by omega
  have n80 : b7 + 1 ≠ w.heap.size := by omega
  have n81 : b7 + 1 ≠ w.heap.size + 1 := by omega
  have e0 : w.heap.size ≠ w.heap.size + 1 := by omega
  have e1 : w.heap.size + 1 ≠ w.heap.size := by omega
  have bp0 : ∀ a, up = some a → a.block ≠ w.heap.size := fun a ha => by have := (unhide H2).bp a ha; omega
  have bp1 : ∀ a, up = some a → a.block ≠ w.heap.size + 1 := fun a ha => by have := (unhide H2).bp a ha; omega
  have bs0 : ∀ a, us = some a → a.block ≠ w.heap.size := fun a ha => by have := (unhide H2).bs a ha; omega
  have bs1 : ∀ a, us = some a → a.block ≠ w.heap.size + 1 := fun a ha => by have := (unhide H2).bs a ha; omega
  clear hQ
  conv => arg 2; whnf
  refine wp_region_inv2 (fun Lb A W => ∃ (u0 u1 u2 u3 u4 u5 : Bool) (dd : Nat), Lb = #[u0, u1, u2, u3, u4, u5] ∧ A = ({ tmps := #[s0, s1, .pointer (some ⟨w.heap.size, 0, none⟩), .pointer (some ⟨w.heap.size + 1, 0, none⟩), (bif u5 then .int .i64 (R) else s4), s5, s6, .pointer (some ⟨b7, 0, none⟩), .pointer (some ⟨b7 + 1, 0, none⟩), s9, .int .i64 (R), s11, s12, s13, s14, s15, s16, s17, s18, s19, s20, s21, s22, s23, s24, s25, s26, s27, s28, s29, s30, s31, s32, s33, s34, s35, s36, s37, s38, s39, s40, s41, s42, s43, s44, s45, s46, s47, s48, s49, s50, s51, s52, s53, s54, s55, s56, s57, s58, s59, s60, s61, s62, s63, s64, s65, s66, s67, s68, s69, s70, s71, s72, s73, s74, s75, s76, s77, s78, s79, s80, s81, s82, s83, s84, s85, s86, s87, s88, s89, s90, s91, s92, s93, (bif u0 then .agg #[.int .i64 Ws, .int .i64 Hs, .slice us ns cs] else s94), (bif u1 then .agg #[.int .i64 Wp, .int .i64 Hp, .slice up np cp] else s95), (bif u2 then .int .i64 (R) else s96)], defers := [] } : Act) ∧ (So B g k W ∧ Mv g w W ∧ vb W b7 25 [.int .i64 Wp, .int .i64 Hp, .slice up np cp] ∧ vb W (b7 + 1) 25 [.int .i64 Ws, .int .i64 Hs, .slice us ns cs] ∧ Fq W up np cp P ∧ Fq W us ns cs S) ∧ (u3 = false → vb W w.heap.size 25 [.int .i64 0, .int .i64 0, .slice none 0 0]) ∧ (u3 = true → vb W w.heap.size 25 [.int .i64 Ws, .int .i64 Hs, .slice us ns cs]) ∧ (u4 = false → vb W (w.heap.size + 1) 25 [.int .i64 0, .int .i64 0, .slice none 0 0]) ∧ (u4 = true → vb W (w.heap.size + 1) 25 [.int .i64 Wp, .int .i64 Hp, .slice up np cp]) ∧ (u3 = true → u0 = true) ∧ (u4 = true → u1 = true ∧ u3 = true) ∧ (u5 = true → u0 = true ∧ u1 = true ∧ u2 = true ∧ u3 = true ∧ u4 = true)) (by kernel_rfl) (by kernel_rfl) ?h0 ?hstep ?hend
  case h0 =>
    exact ⟨false, false, false, false, false, false, 0, rfl, rfl, ⟨(unhide H2).so.drew, (unhide H2).mv.drew, (unhide H2).v7, (unhide H2).v8, (unhide H2).fp.bel (Below.drew (Below.refl _ _)), (unhide H2).fs.bel (Below.drew (Below.refl _ _))⟩, (fun _ => (unhide H2).v2), (fun h => nomatch h), (fun _ => (unhide H2).v3), (fun h => nomatch h), (fun h => nomatch h), (fun h => nomatch h), (fun h => nomatch h)⟩
  case hstep =>
    rintro Lb A W ⟨u0, u1, u2, u3, u4, u5, dd, rfl, rfl, kJ, k2, k2b, k3, k3b, c3, c4, kF⟩
    refine ⟨?_, ?_, ?_, ?_, ?_, ?_, trivial⟩
    · intro h0 hd K hK
      have z : u0 = false := h0
      have z5_ : u5 = false := by
        cases hu : u5 with
        | false => rfl
        | true => exact nomatch z.symm.trans ((kF hu).1)
      have z3_ : u3 = false := by
        cases hu : u3 with
        | false => rfl
        | true => exact nomatch z.symm.trans ((c3 hu))
      have z4_ : u4 = false := by
        cases hu : u4 with
        | false => rfl
        | true => exact nomatch z.symm.trans ((c3 (c4 hu).2))
      have H_kJ := hide kJ
      have H_k2 := hide k2
      have H_k2b := hide k2b
      have H_k3 := hide k3
      have H_k3b := hide k3b
      have H_c3 := hide c3
      have H_c4 := hide c4
      have H_kF := hide kF
      clear kJ k2 k2b k3 k3b c3 c4 kF
      subst z5_
      subst z3_
      subst z4_
      subst z
      clear h0 hd
      rw [if_pos (by rfl)]
      have v1 := (unhide H_kJ).2.2.2.1
      have q0 := v1.cell (m := 0) rfl
      have q1 := v1.cell (m := 1) rfl
      have q2 := v1.cell (m := 2) rfl
      clear v1
      go_simp
      exact unhide hK _ _ ⟨true, u1, u2, false, false, false, dd, rfl, rfl, unhide H_kJ, unhide H_k2, (fun h => nomatch h), unhide H_k3, unhide H_k3b, (fun h => nomatch h), (fun h => nomatch h), (fun h => nomatch h)⟩
    · intro h0 hd K hK
      have z : u1 = false := h0
      have z5_ : u5 = false := by
        cases hu : u5 with
        | false => rfl
        | true => exact nomatch z.symm.trans ((kF hu).2.1)
      have z4_ : u4 = false := by
        cases hu : u4 with
        | false => rfl
        | true => exact nomatch z.symm.trans ((c4 hu).1)
      have H_kJ := hide kJ
      have H_k2 := hide k2
      have H_k2b := hide k2b
      have H_k3 := hide k3
      have H_k3b := hide k3b
      have H_c3 := hide c3
      have H_c4 := hide c4
      have H_kF := hide kF
      clear kJ k2 k2b k3 k3b c3 c4 kF
      subst z5_
      subst z4_
      subst z
      clear h0 hd
      rw [if_pos (by rfl)]
      have v1 := (unhide H_kJ).2.2.1
      have q0 := v1.cell (m := 0) rfl
      have q1 := v1.cell (m := 1) rfl
      have q2 := v1.cell (m := 2) rfl
      clear v1
      go_simp
      exact unhide hK _ _ ⟨u0, true, u2, u3, false, false, dd, rfl, rfl, unhide H_kJ, unhide H_k2, unhide H_k2b, unhide H_k3, (fun h => nomatch h), unhide H_c3, (fun h => nomatch h), (fun h => nomatch h)⟩
    · intro h0 hd K hK
      have z : u2 = false := h0
      have z5_ : u5 = false := by
        cases hu : u5 with
        | false => rfl
        | true => exact nomatch z.symm.trans ((kF hu).2.2.1)
      have H_kJ := hide kJ
      have H_k2 := hide k2
      have H_k2b := hide k2b
      have H_k3 := hide k3
      have H_k3b := hide k3b
      have H_c3 := hide c3
      have H_c4 := hide c4
      have H_kF := hide kF
      clear kJ k2 k2b k3 k3b c3 c4 kF
      subst z5_
      subst z
      clear h0 hd
      rw [if_pos (by rfl)]
      go_simp
      exact unhide hK _ _ ⟨u0, u1, true, u3, u4, false, dd, rfl, rfl, unhide H_kJ, unhide H_k2, unhide H_k2b, unhide H_k3, unhide H_k3b, unhide H_c3, unhide H_c4, (fun h => nomatch h)⟩
    · intro h0 hd K hK
      have z : u3 = false := h0
      have z5_ : u5 = false := by
        cases hu : u5 with
        | false => rfl
        | true => exact nomatch z.symm.trans ((kF hu).2.2.2.1)
      have z4_ : u4 = false := by
        cases hu : u4 with
        | false => rfl
        | true => exact nomatch z.symm.trans ((c4 hu).2)
      have zd : u0 = true := by
        simp [Region.binds] at hd
        simp [hd]
      have H_kJ := hide kJ
      have H_k2 := hide k2
      have H_k2b := hide k2b
      have H_k3 := hide k3
      have H_k3b := hide k3b
      have H_c3 := hide c3
      have H_c4 := hide c4
      have H_kF := hide kF
      clear kJ k2 k2b k3 k3b c3 c4 kF
      obtain ⟨rfl⟩ := zd
      subst z5_
      subst z4_
      subst z
      clear h0 hd
      rw [if_pos (by rfl)]
      have v1 := unhide H_k2 rfl
      have fz := v1.frozen
      have q0 := v1.cell (m := 0) rfl
      have q1 := v1.cell (m := 1) rfl
      have q2 := v1.cell (m := 2) rfl
      clear v1
      go_simp
      exact unhide hK _ _ ⟨true, u1, u2, true, false, false, dd, rfl, rfl, ⟨(((unhide H_kJ).1.set l0 g0 _ _).set l0 g0 _ _).set l0 g0 _ _, (((unhide H_kJ).2.1.new m0 _ _).new m0 _ _).new m0 _ _, ((((unhide H_kJ).2.2.1).ne n70).ne n70).ne n70, ((((unhide H_kJ).2.2.2.1).ne n80).ne n80).ne n80, ((((unhide H_kJ).2.2.2.2.1).ne bp0).ne bp0).ne bp0, ((((unhide H_kJ).2.2.2.2.2).ne bs0).ne bs0).ne bs0⟩, (fun h => nomatch h), (fun _ => (((unhide H_k2 rfl).set 0 _).set 1 _).set 2 _), (fun h => (((unhide H_k3 h).ne e1).ne e1).ne e1), (fun h => nomatch h), (fun _ => rfl), (fun h => nomatch h), (fun h => nomatch h)⟩
    · intro h0 hd K hK
      have z : u4 = false := h0
      have z5_ : u5 = false := by
        cases hu : u5 with
        | false => rfl
        | true => exact nomatch z.symm.trans ((kF hu).2.2.2.2)
      have zd : u1 = true ∧ u3 = true := by
        simp [Region.binds] at hd
        simp [hd]
      have H_kJ := hide kJ
      have H_k2 := hide k2
      have H_k2b := hide k2b
      have H_k3 := hide k3
      have H_k3b := hide k3b
      have H_c3 := hide c3
      have H_c4 := hide c4
      have H_kF := hide kF
      clear kJ k2 k2b k3 k3b c3 c4 kF
      obtain ⟨rfl, rfl⟩ := zd
      subst z5_
      subst z
      clear h0 hd
      rw [if_pos (by rfl)]
      have v1 := unhide H_k3 rfl
      have fz := v1.frozen
      have q0 := v1.cell (m := 0) rfl
      have q1 := v1.cell (m := 1) rfl
      have q2 := v1.cell (m := 2) rfl
      clear v1
      go_simp
      exact unhide hK _ _ ⟨u0, true, u2, true, true, false, dd, rfl, rfl, ⟨(((unhide H_kJ).1.set l1 g1 _ _).set l1 g1 _ _).set l1 g1 _ _, (((unhide H_kJ).2.1.new m1 _ _).new m1 _ _).new m1 _ _, ((((unhide H_kJ).2.2.1).ne n71).ne n71).ne n71, ((((unhide H_kJ).2.2.2.1).ne n81).ne n81).ne n81, ((((unhide H_kJ).2.2.2.2.1).ne bp1).ne bp1).ne bp1, ((((unhide H_kJ).2.2.2.2.2).ne bs1).ne bs1).ne bs1⟩, (fun h => nomatch h), (fun h => (((unhide H_k2b h).ne e0).ne e0).ne e0), (fun h => nomatch h), (fun _ => (((unhide H_k3 rfl).set 0 _).set 1 _).set 2 _), unhide H_c3, (fun _ => ⟨rfl, rfl⟩), (fun h => nomatch h)⟩
    · intro h0 hd K hK
      have z : u5 = false := h0
      have zd : u2 = true ∧ u4 = true ∧ u0 = true ∧ u1 = true ∧ u3 = true := by
        simp [Region.binds] at hd
        simp_all
      have H_kJ := hide kJ
      have H_k2 := hide k2
      have H_k2b := hide k2b
      have H_k3 := hide k3
      have H_k3b := hide k3b
      have H_c3 := hide c3
      have H_c4 := hide c4
      have H_kF := hide kF
      clear kJ k2 k2b k3 k3b c3 c4 kF
      obtain ⟨rfl, rfl, rfl, rfl, rfl⟩ := zd
      subst z
      clear h0 hd
      rw [if_pos (by rfl)]
      go_simp
      exact unhide hK _ _ ⟨true, true, true, true, true, true, dd, rfl, rfl, unhide H_kJ, unhide H_k2, unhide H_k2b, unhide H_k3, unhide H_k3b, (fun _ => rfl), (fun _ => ⟨rfl, rfl⟩), (fun _ => ⟨rfl, rfl, rfl, rfl, rfl⟩)⟩
  case hend =>
    rintro Lb A W ⟨u0, u1, u2, u3, u4, u5, dd, rfl, rfl, kJ, k2, k2b, k3, k3b, c3, c4, kF⟩ hL
    have hl : u0 = true ∧ u1 = true ∧ u2 = true ∧ u3 = true ∧ u4 = true ∧ u5 = true := by
      have h2 := congrArg Array.toList hL
      simpa [List.replicate] using h2
    obtain ⟨rfl, rfl, rfl, rfl, rfl, rfl⟩ := hl
    exact unhide HQ _ _ _ W kJ.1 kJ.2.1 kJ.2.2.2.2.1 kJ.2.2.2.2.2 (k2b rfl) (k3b rfl)

set_option maxHeartbeats 4000000 in
set_option maxRecDepth 100000 in
theorem job_any {B g : Nat} {k : Int} {w : World} (h : So B g k w) (hk : k ≤ 800000000) :
    Calls Try.prog 32 #[.pointer (some ⟨g, 0, none⟩)] w fun e w' => JQ w B g k e w' := by
  have hg := h.lt
  have hB := h.above
  have hb0 : Below w.heap.size w ((w.alloc (.cells #[.int .i64 0, .int .i64 0, .slice none 0 0] 25)).alloc (.cells #[.int .i64 0, .int .i64 0, .slice none 0 0] 25)) := ba (ba (Below.refl _ _) _) _
  have HS0 := hide (h.bel hb0)
  have HM0 : Hid (Mv g w ((w.alloc (.cells #[.int .i64 0, .int .i64 0, .slice none 0 0] 25)).alloc (.cells #[.int .i64 0, .int .i64 0, .slice none 0 0] 25))) := hide (Mv.of_bel hb0)
  have HV2 := hide (vb_new1 w 25 [.int .i64 0, .int .i64 0, .slice none 0 0] (.cells #[.int .i64 0, .int .i64 0, .slice none 0 0] 25))
  have HV3 := hide (vb_new2 w 25 [.int .i64 0, .int .i64 0, .slice none 0 0] (.cells #[.int .i64 0, .int .i64 0, .slice none 0 0] 25))
  clear h hb0
  go_enter Try.func32, Try.ntmps32
  go_wp2_with fail
  generalize (w.alloc (.cells #[.int .i64 0, .int .i64 0, .slice none 0 0] 25)).alloc (.cells #[.int .i64 0, .int .i64 0, .slice none 0 0] 25) = Wa at *
  refine (size_any 6 (unhide HS0) (by omega) (by omega)).mono ?_
  rintro e W1 ⟨s1, rfl, s10, s11, rfl⟩
  have ws1 : IntKind.i64.wrap (s1 + 2) = s1 + 2 := wrap_i (by omega) (by omega)
  go_wp2_with fail
  refine (next_any (k := k) (s1 + 2) (unhide HS0) (by omega) (by omega) (by omega)).mono ?_
  rintro e W2 ⟨r1, rfl, r10, r11, hs, mv⟩
  have HS1 := hide hs
  have HM1 := hide ((unhide HM0).trans mv)
  have HV2a := hide ((unhide HV2).mv mv (by omega))
  have HV3a := hide ((unhide HV3).mv mv (by omega))
  clear hs mv HS0 HM0 HV2 HV3
  obtain ⟨r1, rfl⟩ := Int.eq_ofNat_of_zero_le r10
  have w1 : IntKind.i64.wrap (1 + (r1 : Int)) = ((r1 + 1 : Nat) : Int) := (wrap_i (by omega) (by omega)).trans (by omega)
  obtain ⟨W, hWe⟩ : ∃ W : Nat, r1 + 1 = W := ⟨_, rfl⟩
  rw [hWe] at w1
  have hW1 : 1 ≤ W := by omega
  have hW : W ≤ 24 := by omega
  clear hWe
  go_wp2_with fail
  refine (size_any 6 (unhide HS1) (by omega) (by omega)).mono ?_
  rintro e W3 ⟨s2, rfl, s20, s21, rfl⟩
  have ws2 : IntKind.i64.wrap (s2 + 2) = s2 + 2 := wrap_i (by omega) (by omega)
  go_wp2_with fail
  refine (next_any (k := k + 3) (s2 + 2) (unhide HS1) (by omega) (by omega) (by omega)).mono ?_
  rintro e W4 ⟨r2, rfl, r20, r21, hs, mv⟩
  have HS2 := hide hs
  have HM2 := hide ((unhide HM1).trans mv)
  have HV2b := hide ((unhide HV2a).mv mv (by omega))
  have HV3b := hide ((unhide HV3a).mv mv (by omega))
  clear hs mv HS1 HM1 HV2a HV3a
  obtain ⟨r2, rfl⟩ := Int.eq_ofNat_of_zero_le r20
  have w2 : IntKind.i64.wrap (1 + (r2 : Int)) = ((r2 + 1 : Nat) : Int) := (wrap_i (by omega) (by omega)).trans (by omega)
  obtain ⟨H, hHe⟩ : ∃ H : Nat, r2 + 1 = H := ⟨_, rfl⟩
  rw [hHe] at w2
  have hH1 : 1 ≤ H := by omega
  have hH : H ≤ 24 := by omega
  clear hHe
  obtain ⟨n, hn⟩ : ∃ n : Nat, n = W * H := ⟨_, rfl⟩
  have hnb : n ≤ 576 := by rw [hn]; exact Nat.mul_le_mul hW hH
  have hn1 : 1 ≤ n := by rw [hn]; exact Nat.mul_pos hW1 hH1
  have wm : IntKind.i64.wrap ((W : Int) * (H : Int)) = (n : Int) := by
    rw [← Int.natCast_mul, ← hn]
    exact Go.IntWalk.i64_in _ ⟨by omega, by omega⟩
  have HN := hide hn
  clear hn
  go_wp2_with fail
  refine (fld_any (k := k + 3 + 3) W H n hW1 hW hH1 hH (unhide HN) (unhide HS2) (by omega)).mono ?_
  rintro e W5 ⟨q, cap, P, rfl, hrp, hs, mv⟩
  have hA : Below W5.heap.size W5 ((W5.alloc (.cells #[.int .i64 (W : Int), .int .i64 (H : Int), .slice (some ⟨q, 0, none⟩) n cap] 25)).alloc (.cells #[.int .i64 (W : Int), .int .i64 (H : Int), .slice none 0 0] 25)) := ba (ba (Below.refl _ _) _) _
  have hs4 : w.heap.size + 2 ≤ W4.heap.size := (unhide HV3b).lt
  have HJ : Hid (Jz w B g (k + 1006) W5.heap.size W H q n cap P W H none 0 0 [] ((W5.alloc (.cells #[.int .i64 (W : Int), .int .i64 (H : Int), .slice (some ⟨q, 0, none⟩) n cap] 25)).alloc (.cells #[.int .i64 (W : Int), .int .i64 (H : Int), .slice none 0 0] 25))) := hide
    ⟨(hs.bel hA).up (by omega), ((unhide HM2).trans mv).call hA, hg, ((unhide HV2b).mv mv (by omega)).bel hA, ((unhide HV3b).mv mv (by omega)).bel hA, vb_new1 W5 25 [.int .i64 (W : Int), .int .i64 (H : Int), .slice (some ⟨q, 0, none⟩) n cap] _, vb_new2 W5 25 [.int .i64 (W : Int), .int .i64 (H : Int), .slice none 0 0] _, (hrp.below hA).mono hs4, ⟨rfl, .inl ⟨rfl, rfl⟩⟩, Nat.le_trans hs4 mv.size, (World.ownsRow.lt hrp q rfl).2⟩
  have hq2 : w.heap.size + 2 ≤ q := Nat.le_trans hs4 hrp.ge
  clear hs mv hA hrp HS2 HM2 HV2b HV3b hs4
  go_upto_region 5 with fail
  generalize (W5.alloc (.cells #[.int .i64 (W : Int), .int .i64 (H : Int), .slice (some ⟨q, 0, none⟩) n cap] 25)).alloc (.cells #[.int .i64 (W : Int), .int .i64 (H : Int), .slice none 0 0] 25) = Wb at *
  generalize W5.heap.size = b7 at *
  go_wp2_with fail
  go_loopw [9] (fun zz X => ∃ (i : Nat) (us : Option Addr) (cs : Nat) (S : List Int), zz = .int .i64 (i : Int) ∧ i ≤ n ∧ Jz w B g (k + 1006 + 3 * (i : Int)) b7 W H q n cap P W H us i cs S X) (fun zz _ => n - (intOf zz).toNat)
  case atStart => exact ⟨0, none, 0, [], rfl, Nat.zero_le _, by simpa using unhide HJ⟩
  case round =>
    obtain ⟨i, us, cs, S, rfl, hii, hz⟩ := hrel
    have HZ := hide hz
    clear hz HJ
    by_cases hc : i < n
    · have lz := decide_eq_true (show (i : Int) < (n : Int) by omega)
      obtain ⟨xt, hxt⟩ : ∃ xt, P[i]? = some xt := ⟨_, List.getElem?_eq_getElem (by have := (unhide HZ).rp.len; omega)⟩
      have HXT := hide hxt
      clear hxt
      go_wp2_with fail
      refine Go.Code.wp_mono (Only.to (fun _ _ h => h)) (jb8 (k := k + 1006 + 3 * (i : Int)) (by omega) hc hnb HXT HZ (fun y37 y38 y39 y40 y41 y42 y43 y44 y45 y46 y47 y48 y49 y50 vq cq z Wc hz => ?_))
      have HZ2 := hide hz
      clear hz HZ
      go_wp2_with fail
      go_roundw
      case rel => exact ⟨i + 1, vq, cq, S ++ [z], by simp, hc, (unhide HZ2).up (by omega)⟩
      case measure => simp only [intOf]; omega
    · have lz : decide ((i : Int) < (n : Int)) = false := decide_eq_false (by omega)
      obtain rfl : i = n := by omega
      have hcapf := (unhide HZ).rp.fd
      have hcap := hcapf.cap
      have hcm := hcapf.top
      clear hcapf
      go_wp2_with fail
      refine (next_any (k := k + 1006 + 3 * (i : Int)) 3 (unhide HZ).so (by omega) (by omega) (by omega)).mono ?_
      rintro e Wc ⟨r, rfl, r0, r1', hs, mv⟩
      have HZ1 := hide ((unhide HZ).step hs mv)
      clear hs mv HZ
      go_wp2_with fail
      refine (next_any (k := k + 1006 + 3 * (i : Int) + 3) 30 (unhide HZ1).so (by omega) (by omega) (by omega)).mono ?_
      rintro e Wd ⟨c30, rfl, c0, c1, hs, mv⟩
      have HZ2 := hide ((unhide HZ1).step hs mv)
      clear hs mv HZ1
      have hc30 : c30 = 0 ∨ c30 = 1 ∨ c30 = 2 ∨ c30 = 3 ∨ c30 = 4 ∨ 5 ≤ c30 := by omega
      rcases hc30 with rfl | rfl | rfl | rfl | rfl | h5
      · -- another tool
        go_wp2_with fail
        refine (next_any (k := k + 1006 + 3 * (i : Int) + 3 + 3) 3 ((unhide HZ2).so.alloc _) (by omega) (by omega) (by omega)).mono ?_
        rintro e We ⟨rt, rfl, t0, t1, hs, mv⟩
        have HZ3 := hide (((unhide HZ2).alloc _).step hs mv)
        have hcl : ∀ j, j < 3 → ∃ x : Int, We.cell? ⟨Wd.heap.size, j, none⟩ = some (.int .i64 x) := by
          intro j hj
          have hlt := (unhide HZ2).so.lt
          have hj' : j = 0 ∨ j = 1 ∨ j = 2 := by omega
          rcases hj' with rfl | rfl | rfl
          · exact ⟨3, mv.cell (by omega) (by simp [go_sem])⟩
          · exact ⟨4, mv.cell (by omega) (by simp [go_sem])⟩
          · exact ⟨-1, mv.cell (by omega) (by simp [go_sem])⟩
        obtain ⟨rt, rfl⟩ := Int.eq_ofNat_of_zero_le t0
        obtain ⟨x, hx⟩ := hcl rt (by omega)
        clear hs mv hcl HZ2
        have HJ := hide (((unhide HZ3).fin hnb hnb).up (k' := k + 8000) (by omega))
        go_wp2_with fail
        refine Go.Code.wp_mono (Only.to (fun _ _ h => h)) (jb21 HJ (fun y94 y95 y96 Wz hso hmv hfp hfs hv2 hv3 => ?_))
        have a0 := hv2.cell (m := 0) rfl
        have a1 := hv2.cell (m := 1) rfl
        have a2 := hv2.cell (m := 2) rfl
        have b0 := hv3.cell (m := 0) rfl
        have b1 := hv3.cell (m := 1) rfl
        have b2 := hv3.cell (m := 2) rfl
        have HE := hide (And.intro hso (And.intro hmv (And.intro hfp hfs)))
        clear hso hmv hfp hfs hv2 hv3
        go_wp2_with fail
        (try rw [Exit.noGoto_ret])
        refine bodyPost_ret (v := .tuple #[.agg #[.int .i64 ((W : Int)), .int .i64 (H : Int), .slice us i cs], .agg #[.int .i64 (W : Int), .int .i64 (H : Int), .slice (some ⟨q, 0, none⟩) i cap], .int .i64 x]) (by simp [results, Try.results32, go_sem, a0, a1, a2, b0, b1, b2]) rfl ?_
        exact ⟨_, _, _, _, _, _, _, _, _, _, _, _, _, rfl, (unhide HE).2.2.2, (unhide HE).2.2.1, (unhide HE).1.up (by omega), (unhide HE).2.1, fun a ha => by have := (unhide HJ).bs a ha; omega, fun a ha => by have := (unhide HJ).bp a ha; omega⟩
      · -- another top
        go_wp2_with fail
        refine Go.Code.wp_mono (Only.to (fun _ _ h => h)) (jb14 (k := k + 1006 + 3 * (i : Int) + 3 + 3) (by omega) hnb hn1 hcap hcm HZ2 (fun y64 y65 y66 y67 y68 y69 y70 y71 y72 y73 y74 y75 y76 P2 We hz => ?_))
        have HJ := hide ((hz.fin hnb hnb).up (k' := k + 8000) (by omega))
        clear hz HZ2
        go_wp2_with fail
        refine Go.Code.wp_mono (Only.to (fun _ _ h => h)) (jb21 HJ (fun y94 y95 y96 Wz hso hmv hfp hfs hv2 hv3 => ?_))
        have a0 := hv2.cell (m := 0) rfl
        have a1 := hv2.cell (m := 1) rfl
        have a2 := hv2.cell (m := 2) rfl
        have b0 := hv3.cell (m := 0) rfl
        have b1 := hv3.cell (m := 1) rfl
        have b2 := hv3.cell (m := 2) rfl
        have HE := hide (And.intro hso (And.intro hmv (And.intro hfp hfs)))
        clear hso hmv hfp hfs hv2 hv3
        go_wp2_with fail
        (try rw [Exit.noGoto_ret])
        refine bodyPost_ret (v := .tuple #[.agg #[.int .i64 ((W : Int)), .int .i64 (H : Int), .slice us i cs], .agg #[.int .i64 (W : Int), .int .i64 (H : Int), .slice (some ⟨q, 0, none⟩) i cap], .int .i64 r]) (by simp [results, Try.results32, go_sem, a0, a1, a2, b0, b1, b2]) rfl ?_
        exact ⟨_, _, _, _, _, _, _, _, _, _, _, _, _, rfl, (unhide HE).2.2.2, (unhide HE).2.2.1, (unhide HE).1.up (by omega), (unhide HE).2.1, fun a ha => by have := (unhide HJ).bs a ha; omega, fun a ha => by have := (unhide HJ).bp a ha; omega⟩
      · -- another W
        have c80 := (unhide HZ2).v8.cell (m := 0) rfl
        have f8 := (unhide HZ2).v8.frozen
        have ww : IntKind.i64.wrap ((W : Int) + 1) = (W : Int) + 1 := wrap_i (by omega) (by omega)
        have HJ : Hid (Jend w B g (k + 8000) b7 W H (some ⟨q, 0, none⟩) i cap P (W + 1) H us i cs S (Wd.setCell ⟨b7 + 1, 0, none⟩ (.int .i64 ((W : Int) + 1)))) := hide (((unhide HZ2).fin hnb hnb).up (k' := k + 8000) (by omega) |>.setW hq2 (unhide HZ2).hq (own_ub (unhide HZ2).rs) _)
        go_wp2_with fail
        first | go_region | skip
        go_wp2_with fail
        refine Go.Code.wp_mono (Only.to (fun _ _ h => h)) (jb21 HJ (fun y94 y95 y96 Wz hso hmv hfp hfs hv2 hv3 => ?_))
        have a0 := hv2.cell (m := 0) rfl
        have a1 := hv2.cell (m := 1) rfl
        have a2 := hv2.cell (m := 2) rfl
        have b0 := hv3.cell (m := 0) rfl
        have b1 := hv3.cell (m := 1) rfl
        have b2 := hv3.cell (m := 2) rfl
        have HE := hide (And.intro hso (And.intro hmv (And.intro hfp hfs)))
        clear hso hmv hfp hfs hv2 hv3
        go_wp2_with fail
        (try rw [Exit.noGoto_ret])
        refine bodyPost_ret (v := .tuple #[.agg #[.int .i64 ((W : Int) + 1), .int .i64 (H : Int), .slice us i cs], .agg #[.int .i64 (W : Int), .int .i64 (H : Int), .slice (some ⟨q, 0, none⟩) i cap], .int .i64 r]) (by simp [results, Try.results32, go_sem, a0, a1, a2, b0, b1, b2]) rfl ?_
        exact ⟨_, _, _, _, _, _, _, _, _, _, _, _, _, rfl, (unhide HE).2.2.2, (unhide HE).2.2.1, (unhide HE).1.up (by omega), (unhide HE).2.1, fun a ha => by have := (unhide HJ).bs a ha; omega, fun a ha => by have := (unhide HJ).bp a ha; omega⟩
      · -- one top less
        obtain ⟨qs, cs', hv, hqs, _, _, hcs, hcsm⟩ := (unhide HZ2).rs.full (by omega)
        cases hv
        have c82 := (unhide HZ2).v8.cell (m := 2) rfl
        have f8 := (unhide HZ2).v8.frozen
        by_cases hc1 : cs = 1
        · have z1 : cs - 1 = 0 := by omega
          have z2 : cs ≤ 1 := by omega
          have HJ : Hid (Jend w B g (k + 8000) b7 W H (some ⟨q, 0, none⟩) i cap P W H (some ⟨qs, 0, none⟩) (i - 1) 0 (S.drop 1) (Wd.setCell ⟨b7 + 1, 2, none⟩ (.slice (some ⟨qs, 0, none⟩) (i - 1) 0))) := hide (((unhide HZ2).fin hnb hnb).up (k' := k + 8000) (by omega) |>.setN (unhide HZ2).rs hnb (by omega) hqs (unhide HZ2).hq)
          go_wp2_with fail
          first | go_region | skip
          go_wp2_with fail
          refine Go.Code.wp_mono (Only.to (fun _ _ h => h)) (jb21 HJ (fun y94 y95 y96 Wz hso hmv hfp hfs hv2 hv3 => ?_))
          have a0 := hv2.cell (m := 0) rfl
          have a1 := hv2.cell (m := 1) rfl
          have a2 := hv2.cell (m := 2) rfl
          have b0 := hv3.cell (m := 0) rfl
          have b1 := hv3.cell (m := 1) rfl
          have b2 := hv3.cell (m := 2) rfl
          have HE := hide (And.intro hso (And.intro hmv (And.intro hfp hfs)))
          clear hso hmv hfp hfs hv2 hv3
          go_wp2_with fail
          (try rw [Exit.noGoto_ret])
          refine bodyPost_ret (v := .tuple #[.agg #[.int .i64 ((W : Int)), .int .i64 (H : Int), .slice (some ⟨qs, 0, none⟩) (i - 1) 0], .agg #[.int .i64 (W : Int), .int .i64 (H : Int), .slice (some ⟨q, 0, none⟩) i cap], .int .i64 r]) (by simp [results, Try.results32, go_sem, a0, a1, a2, b0, b1, b2]) rfl ?_
          exact ⟨_, _, _, _, _, _, _, _, _, _, _, _, _, rfl, (unhide HE).2.2.2, (unhide HE).2.2.1, (unhide HE).1.up (by omega), (unhide HE).2.1, fun a ha => by have := (unhide HJ).bs a ha; omega, fun a ha => by have := (unhide HJ).bp a ha; omega⟩
        · have z1 : ¬ cs - 1 = 0 := by omega
          have z2 : ¬ cs ≤ 1 := by omega
          have HJ : Hid (Jend w B g (k + 8000) b7 W H (some ⟨q, 0, none⟩) i cap P W H (some ⟨qs, 1, none⟩) (i - 1) (cs - 1) (S.drop 1) (Wd.setCell ⟨b7 + 1, 2, none⟩ (.slice (some ⟨qs, 1, none⟩) (i - 1) (cs - 1)))) := hide (((unhide HZ2).fin hnb hnb).up (k' := k + 8000) (by omega) |>.setS (unhide HZ2).rs hnb hn1 hqs (unhide HZ2).hq)
          go_wp2_with fail
          first | go_region | skip
          go_wp2_with fail
          refine Go.Code.wp_mono (Only.to (fun _ _ h => h)) (jb21 HJ (fun y94 y95 y96 Wz hso hmv hfp hfs hv2 hv3 => ?_))
          have a0 := hv2.cell (m := 0) rfl
          have a1 := hv2.cell (m := 1) rfl
          have a2 := hv2.cell (m := 2) rfl
          have b0 := hv3.cell (m := 0) rfl
          have b1 := hv3.cell (m := 1) rfl
          have b2 := hv3.cell (m := 2) rfl
          have HE := hide (And.intro hso (And.intro hmv (And.intro hfp hfs)))
          clear hso hmv hfp hfs hv2 hv3
          go_wp2_with fail
          (try rw [Exit.noGoto_ret])
          refine bodyPost_ret (v := .tuple #[.agg #[.int .i64 ((W : Int)), .int .i64 (H : Int), .slice (some ⟨qs, 1, none⟩) (i - 1) (cs - 1)], .agg #[.int .i64 (W : Int), .int .i64 (H : Int), .slice (some ⟨q, 0, none⟩) i cap], .int .i64 r]) (by simp [results, Try.results32, go_sem, a0, a1, a2, b0, b1, b2]) rfl ?_
          exact ⟨_, _, _, _, _, _, _, _, _, _, _, _, _, rfl, (unhide HE).2.2.2, (unhide HE).2.2.1, (unhide HE).1.up (by omega), (unhide HE).2.1, fun a ha => by have := (unhide HJ).bs a ha; omega, fun a ha => by have := (unhide HJ).bp a ha; omega⟩
      · -- another H
        go_wp2_with fail
        refine (odd_any (k := k + 1006 + 3 * (i : Int) + 3 + 3) (unhide HZ2).so (by omega)).mono ?_
        rintro e We ⟨od, rfl, o0, o1, hs, mv⟩
        have HZ3 := hide ((unhide HZ2).step hs mv)
        clear hs mv HZ2
        have c71 := (unhide HZ3).v7.cell (m := 1) rfl
        have f7 := (unhide HZ3).v7.frozen
        have HJ : Hid (Jend w B g (k + 8000) b7 W od (some ⟨q, 0, none⟩) i cap P W H us i cs S (We.setCell ⟨b7, 1, none⟩ (.int .i64 od))) := hide (((unhide HZ3).fin hnb hnb).up (k' := k + 8000) (by omega) |>.setH hq2 (unhide HZ3).hq (own_ub (unhide HZ3).rs) _)
        go_wp2_with fail
        first | go_region | skip
        go_wp2_with fail
        refine Go.Code.wp_mono (Only.to (fun _ _ h => h)) (jb21 HJ (fun y94 y95 y96 Wz hso hmv hfp hfs hv2 hv3 => ?_))
        have a0 := hv2.cell (m := 0) rfl
        have a1 := hv2.cell (m := 1) rfl
        have a2 := hv2.cell (m := 2) rfl
        have b0 := hv3.cell (m := 0) rfl
        have b1 := hv3.cell (m := 1) rfl
        have b2 := hv3.cell (m := 2) rfl
        have HE := hide (And.intro hso (And.intro hmv (And.intro hfp hfs)))
        clear hso hmv hfp hfs hv2 hv3
        go_wp2_with fail
        (try rw [Exit.noGoto_ret])
        refine bodyPost_ret (v := .tuple #[.agg #[.int .i64 ((W : Int)), .int .i64 (H : Int), .slice us i cs], .agg #[.int .i64 (W : Int), .int .i64 od, .slice (some ⟨q, 0, none⟩) i cap], .int .i64 r]) (by simp [results, Try.results32, go_sem, a0, a1, a2, b0, b1, b2]) rfl ?_
        exact ⟨_, _, _, _, _, _, _, _, _, _, _, _, _, rfl, (unhide HE).2.2.2, (unhide HE).2.2.1, (unhide HE).1.up (by omega), (unhide HE).2.1, fun a ha => by have := (unhide HJ).bs a ha; omega, fun a ha => by have := (unhide HJ).bp a ha; omega⟩
      · -- as it is
        have d0 : (c30 == 0) = false := by rw [beq_eq_false_iff_ne]; omega
        have d1 : (c30 == 1) = false := by rw [beq_eq_false_iff_ne]; omega
        have d2 : (c30 == 2) = false := by rw [beq_eq_false_iff_ne]; omega
        have d3 : (c30 == 3) = false := by rw [beq_eq_false_iff_ne]; omega
        have d4 : (c30 == 4) = false := by rw [beq_eq_false_iff_ne]; omega
        have HJ := hide (((unhide HZ2).fin hnb hnb).up (k' := k + 8000) (by omega))
        go_wp2_with fail
        refine Go.Code.wp_mono (Only.to (fun _ _ h => h)) (jb21 HJ (fun y94 y95 y96 Wz hso hmv hfp hfs hv2 hv3 => ?_))
        have a0 := hv2.cell (m := 0) rfl
        have a1 := hv2.cell (m := 1) rfl
        have a2 := hv2.cell (m := 2) rfl
        have b0 := hv3.cell (m := 0) rfl
        have b1 := hv3.cell (m := 1) rfl
        have b2 := hv3.cell (m := 2) rfl
        have HE := hide (And.intro hso (And.intro hmv (And.intro hfp hfs)))
        clear hso hmv hfp hfs hv2 hv3
        go_wp2_with fail
        (try rw [Exit.noGoto_ret])
        refine bodyPost_ret (v := .tuple #[.agg #[.int .i64 ((W : Int)), .int .i64 (H : Int), .slice us i cs], .agg #[.int .i64 (W : Int), .int .i64 (H : Int), .slice (some ⟨q, 0, none⟩) i cap], .int .i64 r]) (by simp [results, Try.results32, go_sem, a0, a1, a2, b0, b1, b2]) rfl ?_
        exact ⟨_, _, _, _, _, _, _, _, _, _, _, _, _, rfl, (unhide HE).2.2.2, (unhide HE).2.2.1, (unhide HE).1.up (by omega), (unhide HE).2.1, fun a ha => by have := (unhide HJ).bs a ha; omega, fun a ha => by have := (unhide HJ).bp a ha; omega⟩
end Go.Proofs.Ytjhldjojkaphkaa
