/-
  A drawn stock, part and tool: two statements, walked alone.
-/
import Derived.Test.YtjhldjojkaphkaaFld
import Derived.Test.YtjhldjojkaphkaaInv2
namespace Go.Proofs.Ytjhldjojkaphkaa
open Go.ChangeShapes Go.WideShapes Go.ChangeAt Go.RowKit
set_option linter.unusedVariables false
set_option linter.unusedSimpArgs false

theorem one_cell {W : World} {p : Nat} {x : Int} (h : W.heap[p]? = some (.cells #[.int .i64 x] 3)) : ∀ (j : Nat) (u : Value), ([x].map (Value.int .i64))[j]? = some u → W.cell? ((⟨p, 0, none⟩ : Addr).add j) = some u := by
  intro j u hj
  rw [add_none, Nat.zero_add]
  simp only [World.cell?]
  rw [h]
  simpa using hj
/-- on the way to a stock and a part -/
structure Jz (w : World) (B g : Nat) (k : Int) (b7 : Nat) (Wp Hp : Int) (q np cp : Nat) (P : List Int) (Ws Hs : Int) (us : Option Addr) (ns cs : Nat) (S : List Int) (X : World) : Prop where
  so : So B g k X
  mv : Mv g w X
  hg : g < w.heap.size
  v2 : vb X w.heap.size 25 [.int .i64 0, .int .i64 0, .slice none 0 0]
  v3 : vb X (w.heap.size + 1) 25 [.int .i64 0, .int .i64 0, .slice none 0 0]
  v7 : vb X b7 25 [.int .i64 Wp, .int .i64 Hp, .slice (some ⟨q, 0, none⟩) np cp]
  v8 : vb X (b7 + 1) 25 [.int .i64 Ws, .int .i64 Hs, .slice us ns cs]
  rp : Row X (w.heap.size + 2) 3 1 (.slice (some ⟨q, 0, none⟩) np cp) np P
  rs : Row X (b7 + 2) 3 1 (.slice us ns cs) ns S
  h7 : w.heap.size + 2 ≤ b7
  hq : q < b7
theorem Jz.step {w : World} {B g b7 q np cp ns cs : Nat} {k Wp Hp Ws Hs : Int} {us : Option Addr} {P S : List Int} {X : World} {k' : Int} {X' : World} (h : Jz w B g k b7 Wp Hp q np cp P Ws Hs us ns cs S X) (hs : So B g k' X') (mv : Mv g X X') : Jz w B g k' b7 Wp Hp q np cp P Ws Hs us ns cs S X' := by
  have hg := h.hg; have h7 := h.h7
  exact ⟨hs, h.mv.trans mv, hg, h.v2.mv mv (by omega), h.v3.mv mv (by omega), h.v7.mv mv (by omega), h.v8.mv mv (by omega), h.rp.mv mv (by omega), h.rs.mv mv (by omega), h7, h.hq⟩
theorem Jz.up {w : World} {B g b7 q np cp ns cs : Nat} {k Wp Hp Ws Hs : Int} {us : Option Addr} {P S : List Int} {X : World} {k' : Int} (h : Jz w B g k b7 Wp Hp q np cp P Ws Hs us ns cs S X) (hk : k ≤ k') : Jz w B g k' b7 Wp Hp q np cp P Ws Hs us ns cs S X := ⟨h.so.up hk, h.mv, h.hg, h.v2, h.v3, h.v7, h.v8, h.rp, h.rs, h.h7, h.hq⟩
theorem Jz.bel {w : World} {B g b7 q np cp ns cs : Nat} {k Wp Hp Ws Hs : Int} {us : Option Addr} {P S : List Int} {X : World} {X' : World} (h : Jz w B g k b7 Wp Hp q np cp P Ws Hs us ns cs S X) (hb : Below X.heap.size X X') : Jz w B g k b7 Wp Hp q np cp P Ws Hs us ns cs S X' := h.step (h.so.bel hb) (Mv.of_bel hb)
theorem Jz.alloc {w : World} {B g b7 q np cp ns cs : Nat} {k Wp Hp Ws Hs : Int} {us : Option Addr} {P S : List Int} {X : World} (h : Jz w B g k b7 Wp Hp q np cp P Ws Hs us ns cs S X) (o : Obj) : Jz w B g k b7 Wp Hp q np cp P Ws Hs us ns cs S (X.alloc o) := h.bel (ba (Below.refl _ _) o)
theorem Jz.drew {w : World} {B g b7 q np cp ns cs : Nat} {k Wp Hp Ws Hs : Int} {us : Option Addr} {P S : List Int} {X : World} (h : Jz w B g k b7 Wp Hp q np cp P Ws Hs us ns cs S X) : Jz w B g k b7 Wp Hp q np cp P Ws Hs us ns cs S X.drew := h.bel (Below.drew (Below.refl _ _))
theorem Jz.more {w : World} {B g b7 q np cp ns cs : Nat} {k Wp Hp Ws Hs : Int} {us : Option Addr} {P S : List Int} {X : World} {X' : World} {vz : Option Addr} {m cz : Nat} {S' : List Int} (h : Jz w B g k b7 Wp Hp q np cp P Ws Hs us ns cs S X) (hb : Below (b7 + 2) X X') (hr : Row X' (b7 + 2) 3 1 (.slice vz m cz) m S') :
    vb X' (b7 + 1) 25 [.int .i64 Ws, .int .i64 Hs, .slice us ns cs] ∧ Jz w B g k b7 Wp Hp q np cp P Ws Hs vz m cz S' (X'.setCell ⟨b7 + 1, 2, none⟩ (.slice vz m cz)) := by
  have hg := h.hg; have h7 := h.h7; have hB := h.so.above; have hq := h.hq
  have v8 := h.v8.below hb (by omega)
  refine ⟨v8, (h.so.belB hb (by omega)).set (by omega) (by omega) _ _, (h.mv.belB hb (by omega)).new (by omega) _ _, hg, (h.v2.below hb (by omega)).ne (by omega), (h.v3.below hb (by omega)).ne (by omega), (h.v7.below hb (by omega)).ne (by omega), v8.set 2 _, h.rp.kept' (fun y hy => ?_), hr.kept' (fun y hy => ?_), h7, hq⟩
  · simp only [Value.ownBlock, Option.some.injEq] at hy
    subst hy
    have hne : q ≠ b7 + 1 := by omega
    exact (Below.heap_setCell _ _ _ _ hne).trans (hb.block q (by omega))
  · have := (World.ownsRow.lt hr y hy).1
    have hne : y ≠ b7 + 1 := by omega
    exact Below.heap_setCell _ _ _ _ hne
theorem Jz.put {w : World} {B g b7 q np cp ns cs : Nat} {k Wp Hp Ws Hs : Int} {us : Option Addr} {P S : List Int} {X : World} {j : Nat} (h : Jz w B g k b7 Wp Hp q np cp P Ws Hs us ns cs S X) (hj : j < np) (x : Int) : Jz w B g k b7 Wp Hp q np cp (P.set j x) Ws Hs us ns cs S (X.setCell ⟨q, j, none⟩ (.int .i64 x)) := by
  have hg := h.hg; have h7 := h.h7; have hB := h.so.above; have hq := h.hq; have hq2 := h.rp.ge
  refine ⟨h.so.set (by omega) (by omega) _ _, h.mv.new (by omega) _ _, hg, h.v2.ne (by omega), h.v3.ne (by omega), h.v7.ne (by omega), h.v8.ne (by omega), h.rp.set j (by omega) x, h.rs.kept' (fun y hy => ?_), h7, hq⟩
  have := (World.ownsRow.lt h.rs y hy).1
  have hne : y ≠ q := by omega
  exact Below.heap_setCell _ _ _ _ hne
noncomputable def reg34 (id : Nat) : Go.Code := match Try.f32.body with | some c => (regOf id c).getD .skip | none => .skip
set_option maxHeartbeats 4000000 in
set_option maxRecDepth 100000 in
theorem jb8 {s1 s2 s3 s4 s5 s6 s10 s11 s12 s13 s14 s15 s16 s17 s18 s19 s20 s21 s22 s23 s24 s25 s26 s27 s28 s29 s30 s31 s32 s33 s34 s35 s36 s37 s38 s39 s40 s41 s42 s43 s44 s45 s46 s47 s48 s49 s50 s51 s52 s53 s54 s55 s56 s57 s58 s59 s60 s61 s62 s63 s64 s65 s66 s67 s68 s69 s70 s71 s72 s73 s74 s75 s76 s77 s78 s79 s80 s81 s82 s83 s84 s85 s86 s87 s88 s89 s90 s91 s92 s93 s94 s95 s96 : Value} {w V : World} {B g b7 q np cp ns cs : Nat} {k Wp Hp Ws Hs xt : Int} {us : Option Addr} {P S : List Int} {K_ : Act → World → Prop} (hk : k ≤ 900000000) (hlt : ns < np) (hnp : np ≤ 576)
    (HXT : Hid (P[ns]? = some xt)) (H2 : Hid (Jz w B g (k) b7 Wp Hp q np cp P Ws Hs us ns cs S V))
    (hQ : ∀ (y37 y38 y39 y40 y41 y42 y43 y44 y45 y46 y47 y48 y49 y50 : Value) (vq : Option Addr) (cq : Nat) (z : Int) (W' : World), Jz w B g (k + 3) b7 Wp Hp q np cp P Ws Hs vq (ns + 1) cq (S ++ [z]) W' → K_ { tmps := #[.pointer (some ⟨g, 0, none⟩), s1, s2, s3, s4, s5, s6, .pointer (some ⟨b7, 0, none⟩), .pointer (some ⟨b7 + 1, 0, none⟩), .int .i64 ((ns : Int)), s10, s11, s12, s13, s14, s15, s16, s17, s18, s19, s20, s21, s22, s23, s24, s25, s26, s27, s28, s29, s30, s31, s32, s33, s34, s35, s36, y37, y38, y39, y40, y41, y42, y43, y44, y45, y46, y47, y48, y49, y50, s51, s52, s53, s54, s55, s56, s57, s58, s59, s60, s61, s62, s63, s64, s65, s66, s67, s68, s69, s70, s71, s72, s73, s74, s75, s76, s77, s78, s79, s80, s81, s82, s83, s84, s85, s86, s87, s88, s89, s90, s91, s92, s93, s94, s95, s96], defers := [] } W') :
    Go.Code.wp Try.prog (reg34 8) (Only K_) { tmps := #[.pointer (some ⟨g, 0, none⟩), s1, s2, s3, s4, s5, s6, .pointer (some ⟨b7, 0, none⟩), .pointer (some ⟨b7 + 1, 0, none⟩), .int .i64 ((ns : Int)), s10, s11, s12, s13, s14, s15, s16, s17, s18, s19, s20, s21, s22, s23, s24, s25, s26, s27, s28, s29, s30, s31, s32, s33, s34, s35, s36, s37, s38, s39, s40, s41, s42, s43, s44, s45, s46, s47, s48, s49, s50, s51, s52, s53, s54, s55, s56, s57, s58, s59, s60, s61, s62, s63, s64, s65, s66, s67, s68, s69, s70, s71, s72, s73, s74, s75, s76, s77, s78, s79, s80, s81, s82, s83, s84, s85, s86, s87, s88, s89, s90, s91, s92, s93, s94, s95, s96], defers := [] } V := by
  obtain ⟨iP, hi1, hy0, hy1, hy2⟩ := info_parts int_info3
  have HQ := hide hQ
  clear hQ
  conv => arg 2; whnf
  refine wp_region_inv2 (fun Lb A W => ∃ (u0 u1 u2 u3 u4 u5 u6 u7 u8 u9 u10 u11 u12 u13 u14 : Bool) (r : Int) (p : Nat) (vq : Option Addr) (cq : Nat), Lb = #[u0, u1, u2, u3, u4, u5, u6, u7, u8, u9, u10, u11, u12, u13, u14] ∧ A = ({ tmps := #[.pointer (some ⟨g, 0, none⟩), s1, s2, s3, s4, s5, s6, .pointer (some ⟨b7, 0, none⟩), .pointer (some ⟨b7 + 1, 0, none⟩), .int .i64 ((ns : Int)), s10, s11, s12, s13, s14, s15, s16, s17, s18, s19, s20, s21, s22, s23, s24, s25, s26, s27, s28, s29, s30, s31, s32, s33, s34, s35, s36, (bif u0 then .pointer (some ⟨b7 + 1, 2, none⟩) else s37), (bif u1 then .slice us ns cs else s38), (bif u2 then .pointer (some ⟨g, 0, none⟩) else s39), (bif u3 then .int .i64 (r) else s40), (bif u4 then .int .i64 (8 + r) else s41), (bif u5 then .pointer (some ⟨b7, 2, none⟩) else s42), (bif u6 then .slice (some ⟨q, 0, none⟩) np cp else s43), (bif u7 then .int .i64 ((ns : Int)) else s44), (bif u8 then .pointer (some ⟨q, ns, none⟩) else s45), (bif u9 then .int .i64 (xt) else s46), (bif u10 then .int .i64 (max (8 + r) xt) else s47), (bif u11 then .slice (some ⟨p, 0, none⟩) 1 1 else s48), (bif u12 then .slice vq (ns + 1) cq else s49), (bif u13 then .pointer (some ⟨b7 + 1, 2, none⟩) else s50), s51, s52, s53, s54, s55, s56, s57, s58, s59, s60, s61, s62, s63, s64, s65, s66, s67, s68, s69, s70, s71, s72, s73, s74, s75, s76, s77, s78, s79, s80, s81, s82, s83, s84, s85, s86, s87, s88, s89, s90, s91, s92, s93, s94, s95, s96], defers := [] } : Act) ∧ (u12 = false → Jz w B g (k + (bif u3 then 3 else 0)) b7 Wp Hp q np cp P Ws Hs us ns cs S W) ∧ (u3 = true → 0 ≤ r ∧ r < 3) ∧ (u11 = true → u12 = false → W.heap[p]? = some (.cells #[.int .i64 (max (8 + r) xt)] 3)) ∧ (u12 = true → u14 = false → vb W (b7 + 1) 25 [.int .i64 Ws, .int .i64 Hs, .slice us ns cs] ∧ Jz w B g (k + 3) b7 Wp Hp q np cp P Ws Hs vq (ns + 1) cq (S ++ [max (8 + r) xt]) (W.setCell ⟨b7 + 1, 2, none⟩ (.slice vq (ns + 1) cq))) ∧ (u14 = true → Jz w B g (k + 3) b7 Wp Hp q np cp P Ws Hs vq (ns + 1) cq (S ++ [max (8 + r) xt]) W) ∧ (u1 = true → u0 = true) ∧ (u3 = true → u2 = true) ∧ (u4 = true → u3 = true) ∧ (u6 = true → u5 = true) ∧ (u8 = true → u6 = true ∧ u7 = true) ∧ (u9 = true → u8 = true) ∧ (u10 = true → u4 = true ∧ u9 = true) ∧ (u11 = true → u10 = true) ∧ (u12 = true → u1 = true ∧ u11 = true) ∧ (u14 = true → u0 = true ∧ u1 = true ∧ u2 = true ∧ u3 = true ∧ u4 = true ∧ u5 = true ∧ u6 = true ∧ u7 = true ∧ u8 = true ∧ u9 = true ∧ u10 = true ∧ u11 = true ∧ u12 = true ∧ u13 = true)) (by kernel_rfl) (by kernel_rfl) ?h0 ?hstep ?hend
  case h0 =>
    exact ⟨false, false, false, false, false, false, false, false, false, false, false, false, false, false, false, 0, 0, none, 0, rfl, rfl, (fun _ => by simpa using (unhide H2).drew), (fun h => nomatch h), (fun h => nomatch h), (fun h => nomatch h), (fun h => nomatch h), (fun h => nomatch h), (fun h => nomatch h), (fun h => nomatch h), (fun h => nomatch h), (fun h => nomatch h), (fun h => nomatch h), (fun h => nomatch h), (fun h => nomatch h), (fun h => nomatch h), (fun h => nomatch h)⟩
  case hstep =>
    rintro Lb A W ⟨u0, u1, u2, u3, u4, u5, u6, u7, u8, u9, u10, u11, u12, u13, u14, r, p, vq, cq, rfl, rfl, kS, b3, q11, kM, kZ, c1, c3, c4, c6, c8, c9, c10, c11, c12, kF⟩
    refine ⟨?_, ?_, ?_, ?_, ?_, ?_, ?_, ?_, ?_, ?_, ?_, ?_, ?_, ?_, ?_, trivial⟩
    · intro h0 hd K hK
      have z : u0 = false := h0
      have z14_ : u14 = false := by
        cases hu : u14 with
        | false => rfl
        | true => exact nomatch z.symm.trans ((kF hu).1)
      have z12_ : u12 = false := by
        cases hu : u12 with
        | false => rfl
        | true => exact nomatch z.symm.trans ((c1 (c12 hu).1))
      have H_kS := hide kS
      have H_b3 := hide b3
      have H_q11 := hide q11
      have H_kM := hide kM
      have H_kZ := hide kZ
      have H_c1 := hide c1
      have H_c3 := hide c3
      have H_c4 := hide c4
      have H_c6 := hide c6
      have H_c8 := hide c8
      have H_c9 := hide c9
      have H_c10 := hide c10
      have H_c11 := hide c11
      have H_c12 := hide c12
      have H_kF := hide kF
      clear kS b3 q11 kM kZ c1 c3 c4 c6 c8 c9 c10 c11 c12 kF
      subst z14_
      subst z12_
      subst z
      clear h0 hd
      rw [if_pos (by rfl)]
      go_simp
      exact unhide hK _ _ ⟨true, u1, u2, u3, u4, u5, u6, u7, u8, u9, u10, u11, false, u13, false, r, p, vq, cq, rfl, rfl, unhide H_kS, unhide H_b3, unhide H_q11, (fun h => nomatch h), (fun h => nomatch h), (fun h => rfl), unhide H_c3, unhide H_c4, unhide H_c6, unhide H_c8, unhide H_c9, unhide H_c10, unhide H_c11, (fun h => nomatch h), (fun h => nomatch h)⟩
    · intro h0 hd K hK
      have z : u1 = false := h0
      have z14_ : u14 = false := by
        cases hu : u14 with
        | false => rfl
        | true => exact nomatch z.symm.trans ((kF hu).2.1)
      have z12_ : u12 = false := by
        cases hu : u12 with
        | false => rfl
        | true => exact nomatch z.symm.trans ((c12 hu).1)
      have zd : u0 = true := by
        simp [Region.binds] at hd
        simp [hd]
      have H_kS := hide kS
      have H_b3 := hide b3
      have H_q11 := hide q11
      have H_kM := hide kM
      have H_kZ := hide kZ
      have H_c1 := hide c1
      have H_c3 := hide c3
      have H_c4 := hide c4
      have H_c6 := hide c6
      have H_c8 := hide c8
      have H_c9 := hide c9
      have H_c10 := hide c10
      have H_c11 := hide c11
      have H_c12 := hide c12
      have H_kF := hide kF
      clear kS b3 q11 kM kZ c1 c3 c4 c6 c8 c9 c10 c11 c12 kF
      obtain ⟨rfl⟩ := zd
      subst z14_
      subst z12_
      subst z
      clear h0 hd
      rw [if_pos (by rfl)]
      have cc := (unhide H_kS rfl).v8.cell (m := 2) rfl
      go_simp
      exact unhide hK _ _ ⟨true, true, u2, u3, u4, u5, u6, u7, u8, u9, u10, u11, false, u13, false, r, p, vq, cq, rfl, rfl, unhide H_kS, unhide H_b3, unhide H_q11, (fun h => nomatch h), (fun h => nomatch h), (fun _ => rfl), unhide H_c3, unhide H_c4, unhide H_c6, unhide H_c8, unhide H_c9, unhide H_c10, unhide H_c11, (fun h => nomatch h), (fun h => nomatch h)⟩
    · intro h0 hd K hK
      have z : u2 = false := h0
      have z14_ : u14 = false := by
        cases hu : u14 with
        | false => rfl
        | true => exact nomatch z.symm.trans ((kF hu).2.2.1)
      have z12_ : u12 = false := by
        cases hu : u12 with
        | false => rfl
        | true => exact nomatch z.symm.trans ((c3 (c4 (c10 (c11 (c12 hu).2)).1)))
      have H_kS := hide kS
      have H_b3 := hide b3
      have H_q11 := hide q11
      have H_kM := hide kM
      have H_kZ := hide kZ
      have H_c1 := hide c1
      have H_c3 := hide c3
      have H_c4 := hide c4
      have H_c6 := hide c6
      have H_c8 := hide c8
      have H_c9 := hide c9
      have H_c10 := hide c10
      have H_c11 := hide c11
      have H_c12 := hide c12
      have H_kF := hide kF
      clear kS b3 q11 kM kZ c1 c3 c4 c6 c8 c9 c10 c11 c12 kF
      subst z14_
      subst z12_
      subst z
      clear h0 hd
      rw [if_pos (by rfl)]
      go_simp
      exact unhide hK _ _ ⟨u0, u1, true, u3, u4, u5, u6, u7, u8, u9, u10, u11, false, u13, false, r, p, vq, cq, rfl, rfl, unhide H_kS, unhide H_b3, unhide H_q11, (fun h => nomatch h), (fun h => nomatch h), unhide H_c1, (fun h => rfl), unhide H_c4, unhide H_c6, unhide H_c8, unhide H_c9, unhide H_c10, unhide H_c11, (fun h => nomatch h), (fun h => nomatch h)⟩
    · intro h0 hd K hK
      have z : u3 = false := h0
      have z14_ : u14 = false := by
        cases hu : u14 with
        | false => rfl
        | true => exact nomatch z.symm.trans ((kF hu).2.2.2.1)
      have z4_ : u4 = false := by
        cases hu : u4 with
        | false => rfl
        | true => exact nomatch z.symm.trans ((c4 hu))
      have z10_ : u10 = false := by
        cases hu : u10 with
        | false => rfl
        | true => exact nomatch z.symm.trans ((c4 (c10 hu).1))
      have z11_ : u11 = false := by
        cases hu : u11 with
        | false => rfl
        | true => exact nomatch z.symm.trans ((c4 (c10 (c11 hu)).1))
      have z12_ : u12 = false := by
        cases hu : u12 with
        | false => rfl
        | true => exact nomatch z.symm.trans ((c4 (c10 (c11 (c12 hu).2)).1))
      have zd : u2 = true := by
        simp [Region.binds] at hd
        simp [hd]
      have H_kS := hide kS
      have H_b3 := hide b3
      have H_q11 := hide q11
      have H_kM := hide kM
      have H_kZ := hide kZ
      have H_c1 := hide c1
      have H_c3 := hide c3
      have H_c4 := hide c4
      have H_c6 := hide c6
      have H_c8 := hide c8
      have H_c9 := hide c9
      have H_c10 := hide c10
      have H_c11 := hide c11
      have H_c12 := hide c12
      have H_kF := hide kF
      clear kS b3 q11 kM kZ c1 c3 c4 c6 c8 c9 c10 c11 c12 kF
      obtain ⟨rfl⟩ := zd
      subst z14_
      subst z4_
      subst z10_
      subst z11_
      subst z12_
      subst z
      clear h0 hd
      rw [if_pos (by rfl)]
      have HSS := unhide H_kS rfl
      simp only [cond_false, Int.add_zero] at HSS
      go_simp
      refine (next_any (k := k) 3 HSS.so (by omega) (by omega) (by omega)).mono ?_
      rintro e w8 ⟨r', rfl, hr1, hr2, hs, mv⟩
      exact unhide hK _ _ ⟨u0, u1, true, true, false, u5, u6, u7, u8, u9, false, false, false, u13, false, r', p, vq, cq, rfl, rfl, (fun _ => HSS.step hs mv), (fun _ => ⟨hr1, hr2⟩), (fun h => nomatch h), (fun h => nomatch h), (fun h => nomatch h), unhide H_c1, (fun _ => rfl), (fun h => nomatch h), unhide H_c6, unhide H_c8, unhide H_c9, (fun h => nomatch h), (fun h => nomatch h), (fun h => nomatch h), (fun h => nomatch h)⟩
    · intro h0 hd K hK
      have z : u4 = false := h0
      have z14_ : u14 = false := by
        cases hu : u14 with
        | false => rfl
        | true => exact nomatch z.symm.trans ((kF hu).2.2.2.2.1)
      have z12_ : u12 = false := by
        cases hu : u12 with
        | false => rfl
        | true => exact nomatch z.symm.trans ((c10 (c11 (c12 hu).2)).1)
      have zd : u3 = true := by
        simp [Region.binds] at hd
        simp [hd]
      have H_kS := hide kS
      have H_b3 := hide b3
      have H_q11 := hide q11
      have H_kM := hide kM
      have H_kZ := hide kZ
      have H_c1 := hide c1
      have H_c3 := hide c3
      have H_c4 := hide c4
      have H_c6 := hide c6
      have H_c8 := hide c8
      have H_c9 := hide c9
      have H_c10 := hide c10
      have H_c11 := hide c11
      have H_c12 := hide c12
      have H_kF := hide kF
      clear kS b3 q11 kM kZ c1 c3 c4 c6 c8 c9 c10 c11 c12 kF
      obtain ⟨rfl⟩ := zd
      subst z14_
      subst z12_
      subst z
      clear h0 hd
      rw [if_pos (by rfl)]
      have hb := unhide H_b3 rfl
      have ww : IntKind.i64.wrap (8 + r) = 8 + r := wrap_i (by omega) (by omega)
      go_simp
      exact unhide hK _ _ ⟨u0, u1, u2, true, true, u5, u6, u7, u8, u9, u10, u11, false, u13, false, r, p, vq, cq, rfl, rfl, unhide H_kS, unhide H_b3, unhide H_q11, (fun h => nomatch h), (fun h => nomatch h), unhide H_c1, unhide H_c3, (fun _ => rfl), unhide H_c6, unhide H_c8, unhide H_c9, (fun h => ⟨rfl, (unhide H_c10 h).2⟩), unhide H_c11, (fun h => nomatch h), (fun h => nomatch h)⟩
    · intro h0 hd K hK
      have z : u5 = false := h0
      have z14_ : u14 = false := by
        cases hu : u14 with
        | false => rfl
        | true => exact nomatch z.symm.trans ((kF hu).2.2.2.2.2.1)
      have z12_ : u12 = false := by
        cases hu : u12 with
        | false => rfl
        | true => exact nomatch z.symm.trans ((c6 (c8 (c9 (c10 (c11 (c12 hu).2)).2)).1))
      have H_kS := hide kS
      have H_b3 := hide b3
      have H_q11 := hide q11
      have H_kM := hide kM
      have H_kZ := hide kZ
      have H_c1 := hide c1
      have H_c3 := hide c3
      have H_c4 := hide c4
      have H_c6 := hide c6
      have H_c8 := hide c8
      have H_c9 := hide c9
      have H_c10 := hide c10
      have H_c11 := hide c11
      have H_c12 := hide c12
      have H_kF := hide kF
      clear kS b3 q11 kM kZ c1 c3 c4 c6 c8 c9 c10 c11 c12 kF
      subst z14_
      subst z12_
      subst z
      clear h0 hd
      rw [if_pos (by rfl)]
      go_simp
      exact unhide hK _ _ ⟨u0, u1, u2, u3, u4, true, u6, u7, u8, u9, u10, u11, false, u13, false, r, p, vq, cq, rfl, rfl, unhide H_kS, unhide H_b3, unhide H_q11, (fun h => nomatch h), (fun h => nomatch h), unhide H_c1, unhide H_c3, unhide H_c4, (fun h => rfl), unhide H_c8, unhide H_c9, unhide H_c10, unhide H_c11, (fun h => nomatch h), (fun h => nomatch h)⟩
    · intro h0 hd K hK
      have z : u6 = false := h0
      have z14_ : u14 = false := by
        cases hu : u14 with
        | false => rfl
        | true => exact nomatch z.symm.trans ((kF hu).2.2.2.2.2.2.1)
      have z12_ : u12 = false := by
        cases hu : u12 with
        | false => rfl
        | true => exact nomatch z.symm.trans ((c8 (c9 (c10 (c11 (c12 hu).2)).2)).1)
      have zd : u5 = true := by
        simp [Region.binds] at hd
        simp [hd]
      have H_kS := hide kS
      have H_b3 := hide b3
      have H_q11 := hide q11
      have H_kM := hide kM
      have H_kZ := hide kZ
      have H_c1 := hide c1
      have H_c3 := hide c3
      have H_c4 := hide c4
      have H_c6 := hide c6
      have H_c8 := hide c8
      have H_c9 := hide c9
      have H_c10 := hide c10
      have H_c11 := hide c11
      have H_c12 := hide c12
      have H_kF := hide kF
      clear kS b3 q11 kM kZ c1 c3 c4 c6 c8 c9 c10 c11 c12 kF
      obtain ⟨rfl⟩ := zd
      subst z14_
      subst z12_
      subst z
      clear h0 hd
      rw [if_pos (by rfl)]
      have cc := (unhide H_kS rfl).v7.cell (m := 2) rfl
      go_simp
      exact unhide hK _ _ ⟨u0, u1, u2, u3, u4, true, true, u7, u8, u9, u10, u11, false, u13, false, r, p, vq, cq, rfl, rfl, unhide H_kS, unhide H_b3, unhide H_q11, (fun h => nomatch h), (fun h => nomatch h), unhide H_c1, unhide H_c3, unhide H_c4, (fun _ => rfl), (fun h => ⟨rfl, (unhide H_c8 h).2⟩), unhide H_c9, unhide H_c10, unhide H_c11, (fun h => nomatch h), (fun h => nomatch h)⟩
    · intro h0 hd K hK
      have z : u7 = false := h0
      have z14_ : u14 = false := by
        cases hu : u14 with
        | false => rfl
        | true => exact nomatch z.symm.trans ((kF hu).2.2.2.2.2.2.2.1)
      have z12_ : u12 = false := by
        cases hu : u12 with
        | false => rfl
        | true => exact nomatch z.symm.trans ((c8 (c9 (c10 (c11 (c12 hu).2)).2)).2)
      have H_kS := hide kS
      have H_b3 := hide b3
      have H_q11 := hide q11
      have H_kM := hide kM
      have H_kZ := hide kZ
      have H_c1 := hide c1
      have H_c3 := hide c3
      have H_c4 := hide c4
      have H_c6 := hide c6
      have H_c8 := hide c8
      have H_c9 := hide c9
      have H_c10 := hide c10
      have H_c11 := hide c11
      have H_c12 := hide c12
      have H_kF := hide kF
      clear kS b3 q11 kM kZ c1 c3 c4 c6 c8 c9 c10 c11 c12 kF
      subst z14_
      subst z12_
      subst z
      clear h0 hd
      rw [if_pos (by rfl)]
      go_simp
      exact unhide hK _ _ ⟨u0, u1, u2, u3, u4, u5, u6, true, u8, u9, u10, u11, false, u13, false, r, p, vq, cq, rfl, rfl, unhide H_kS, unhide H_b3, unhide H_q11, (fun h => nomatch h), (fun h => nomatch h), unhide H_c1, unhide H_c3, unhide H_c4, unhide H_c6, (fun h => ⟨(unhide H_c8 h).1, rfl⟩), unhide H_c9, unhide H_c10, unhide H_c11, (fun h => nomatch h), (fun h => nomatch h)⟩
    · intro h0 hd K hK
      have z : u8 = false := h0
      have z14_ : u14 = false := by
        cases hu : u14 with
        | false => rfl
        | true => exact nomatch z.symm.trans ((kF hu).2.2.2.2.2.2.2.2.1)
      have z12_ : u12 = false := by
        cases hu : u12 with
        | false => rfl
        | true => exact nomatch z.symm.trans ((c9 (c10 (c11 (c12 hu).2)).2))
      have zd : u6 = true ∧ u7 = true := by
        simp [Region.binds] at hd
        simp [hd]
      have H_kS := hide kS
      have H_b3 := hide b3
      have H_q11 := hide q11
      have H_kM := hide kM
      have H_kZ := hide kZ
      have H_c1 := hide c1
      have H_c3 := hide c3
      have H_c4 := hide c4
      have H_c6 := hide c6
      have H_c8 := hide c8
      have H_c9 := hide c9
      have H_c10 := hide c10
      have H_c11 := hide c11
      have H_c12 := hide c12
      have H_kF := hide kF
      clear kS b3 q11 kM kZ c1 c3 c4 c6 c8 c9 c10 c11 c12 kF
      obtain ⟨rfl, rfl⟩ := zd
      subst z14_
      subst z12_
      subst z
      clear h0 hd
      rw [if_pos (by rfl)]
      have i1 : (ns : Int) < (np : Int) := by omega
      have i0 : (0 : Int) ≤ (ns : Int) := Int.natCast_nonneg _
      go_simp
      exact unhide hK _ _ ⟨u0, u1, u2, u3, u4, u5, true, true, true, u9, u10, u11, false, u13, false, r, p, vq, cq, rfl, rfl, unhide H_kS, unhide H_b3, unhide H_q11, (fun h => nomatch h), (fun h => nomatch h), unhide H_c1, unhide H_c3, unhide H_c4, unhide H_c6, (fun _ => ⟨rfl, rfl⟩), (fun h => rfl), unhide H_c10, unhide H_c11, (fun h => nomatch h), (fun h => nomatch h)⟩
    · intro h0 hd K hK
      have z : u9 = false := h0
      have z14_ : u14 = false := by
        cases hu : u14 with
        | false => rfl
        | true => exact nomatch z.symm.trans ((kF hu).2.2.2.2.2.2.2.2.2.1)
      have z12_ : u12 = false := by
        cases hu : u12 with
        | false => rfl
        | true => exact nomatch z.symm.trans ((c10 (c11 (c12 hu).2)).2)
      have zd : u8 = true := by
        simp [Region.binds] at hd
        simp [hd]
      have H_kS := hide kS
      have H_b3 := hide b3
      have H_q11 := hide q11
      have H_kM := hide kM
      have H_kZ := hide kZ
      have H_c1 := hide c1
      have H_c3 := hide c3
      have H_c4 := hide c4
      have H_c6 := hide c6
      have H_c8 := hide c8
      have H_c9 := hide c9
      have H_c10 := hide c10
      have H_c11 := hide c11
      have H_c12 := hide c12
      have H_kF := hide kF
      clear kS b3 q11 kM kZ c1 c3 c4 c6 c8 c9 c10 c11 c12 kF
      obtain ⟨rfl⟩ := zd
      subst z14_
      subst z12_
      subst z
      clear h0 hd
      rw [if_pos (by rfl)]
      have cc := (unhide H_kS rfl).rp.cellAt (unhide HXT)
      go_simp
      exact unhide hK _ _ ⟨u0, u1, u2, u3, u4, u5, u6, u7, true, true, u10, u11, false, u13, false, r, p, vq, cq, rfl, rfl, unhide H_kS, unhide H_b3, unhide H_q11, (fun h => nomatch h), (fun h => nomatch h), unhide H_c1, unhide H_c3, unhide H_c4, unhide H_c6, unhide H_c8, (fun _ => rfl), (fun h => ⟨(unhide H_c10 h).1, rfl⟩), unhide H_c11, (fun h => nomatch h), (fun h => nomatch h)⟩
    · intro h0 hd K hK
      have z : u10 = false := h0
      have z14_ : u14 = false := by
        cases hu : u14 with
        | false => rfl
        | true => exact nomatch z.symm.trans ((kF hu).2.2.2.2.2.2.2.2.2.2.1)
      have z12_ : u12 = false := by
        cases hu : u12 with
        | false => rfl
        | true => exact nomatch z.symm.trans ((c11 (c12 hu).2))
      have zd : u4 = true ∧ u9 = true := by
        simp [Region.binds] at hd
        simp [hd]
      have H_kS := hide kS
      have H_b3 := hide b3
      have H_q11 := hide q11
      have H_kM := hide kM
      have H_kZ := hide kZ
      have H_c1 := hide c1
      have H_c3 := hide c3
      have H_c4 := hide c4
      have H_c6 := hide c6
      have H_c8 := hide c8
      have H_c9 := hide c9
      have H_c10 := hide c10
      have H_c11 := hide c11
      have H_c12 := hide c12
      have H_kF := hide kF
      clear kS b3 q11 kM kZ c1 c3 c4 c6 c8 c9 c10 c11 c12 kF
      obtain ⟨rfl, rfl⟩ := zd
      subst z14_
      subst z12_
      subst z
      clear h0 hd
      rw [if_pos (by rfl)]
      go_simp
      exact unhide hK _ _ ⟨u0, u1, u2, u3, true, u5, u6, u7, u8, true, true, u11, false, u13, false, r, p, vq, cq, rfl, rfl, unhide H_kS, unhide H_b3, unhide H_q11, (fun h => nomatch h), (fun h => nomatch h), unhide H_c1, unhide H_c3, unhide H_c4, unhide H_c6, unhide H_c8, unhide H_c9, (fun _ => ⟨rfl, rfl⟩), (fun h => rfl), (fun h => nomatch h), (fun h => nomatch h)⟩
    · intro h0 hd K hK
      have z : u11 = false := h0
      have z14_ : u14 = false := by
        cases hu : u14 with
        | false => rfl
        | true => exact nomatch z.symm.trans ((kF hu).2.2.2.2.2.2.2.2.2.2.2.1)
      have z12_ : u12 = false := by
        cases hu : u12 with
        | false => rfl
        | true => exact nomatch z.symm.trans ((c12 hu).2)
      have zd : u10 = true := by
        simp [Region.binds] at hd
        simp [hd]
      have H_kS := hide kS
      have H_b3 := hide b3
      have H_q11 := hide q11
      have H_kM := hide kM
      have H_kZ := hide kZ
      have H_c1 := hide c1
      have H_c3 := hide c3
      have H_c4 := hide c4
      have H_c6 := hide c6
      have H_c8 := hide c8
      have H_c9 := hide c9
      have H_c10 := hide c10
      have H_c11 := hide c11
      have H_c12 := hide c12
      have H_kF := hide kF
      clear kS b3 q11 kM kZ c1 c3 c4 c6 c8 c9 c10 c11 c12 kF
      obtain ⟨rfl⟩ := zd
      subst z14_
      subst z12_
      subst z
      clear h0 hd
      rw [if_pos (by rfl)]
      go_simp
      exact unhide hK _ _ ⟨u0, u1, u2, u3, u4, u5, u6, u7, u8, u9, true, true, false, u13, false, r, W.heap.size, vq, cq, rfl, rfl, (fun _ => (unhide H_kS rfl).alloc _), unhide H_b3, (fun _ _ => heap_alloc_new W _), (fun h => nomatch h), (fun h => nomatch h), unhide H_c1, unhide H_c3, unhide H_c4, unhide H_c6, unhide H_c8, unhide H_c9, unhide H_c10, (fun _ => rfl), (fun h => nomatch h), (fun h => nomatch h)⟩
    · intro h0 hd K hK
      have z : u12 = false := h0
      have z14_ : u14 = false := by
        cases hu : u14 with
        | false => rfl
        | true => exact nomatch z.symm.trans ((kF hu).2.2.2.2.2.2.2.2.2.2.2.2.1)
      have zd : u1 = true ∧ u11 = true := by
        simp [Region.binds] at hd
        simp [hd]
      have H_kS := hide kS
      have H_b3 := hide b3
      have H_q11 := hide q11
      have H_kM := hide kM
      have H_kZ := hide kZ
      have H_c1 := hide c1
      have H_c3 := hide c3
      have H_c4 := hide c4
      have H_c6 := hide c6
      have H_c8 := hide c8
      have H_c9 := hide c9
      have H_c10 := hide c10
      have H_c11 := hide c11
      have H_c12 := hide c12
      have H_kF := hide kF
      clear kS b3 q11 kM kZ c1 c3 c4 c6 c8 c9 c10 c11 c12 kF
      obtain ⟨rfl, rfl⟩ := zd
      subst z14_
      subst z
      clear h0 hd
      rw [if_pos (by rfl)]
      have HS0 := unhide H_kS rfl
      have hq0 := unhide H_q11 rfl rfl
      have hszz := HS0.v8.lt
      refine wp_append_own W (.tmp 38) (.tmp 48) 23 (by rfl) (b7 + 2) 3 iP _ 1 8 Try.underlying23 hi1 hy0 hy1 hy2 rfl (by omega) (.slice us ns cs) ns (S.map (Value.int .i64)) (by rfl) HS0.rs ⟨p, 0, none⟩ 1 1 ([max (8 + r) xt].map (Value.int .i64)) (by rfl) (by rfl) (one_cell hq0) ints_one (by unfold maxLen; omega) (by omega) (by omega) ?_
      intro v' wz hown' hgrow _
      have R := own_more (wr := W) (news := [max (8 + r) xt]) (Below.refl _ _) (by omega) HS0.rs hown' hgrow
      obtain ⟨vz, cz, rfl, _⟩ := R.1.form
      have AP := HS0.more R.2 R.1
      exact unhide hK _ _ ⟨u0, true, u2, u3, u4, u5, u6, u7, u8, u9, u10, true, true, u13, false, r, p, vz, cz, rfl, rfl, (fun h => nomatch h), unhide H_b3, (fun _ h => nomatch h), (fun _ _ => ⟨AP.1, AP.2.up (by cases u3 <;> simp <;> omega)⟩), (fun h => nomatch h), unhide H_c1, unhide H_c3, unhide H_c4, unhide H_c6, unhide H_c8, unhide H_c9, unhide H_c10, unhide H_c11, (fun _ => ⟨rfl, rfl⟩), (fun h => nomatch h)⟩
    · intro h0 hd K hK
      have z : u13 = false := h0
      have z14_ : u14 = false := by
        cases hu : u14 with
        | false => rfl
        | true => exact nomatch z.symm.trans ((kF hu).2.2.2.2.2.2.2.2.2.2.2.2.2)
      have H_kS := hide kS
      have H_b3 := hide b3
      have H_q11 := hide q11
      have H_kM := hide kM
      have H_kZ := hide kZ
      have H_c1 := hide c1
      have H_c3 := hide c3
      have H_c4 := hide c4
      have H_c6 := hide c6
      have H_c8 := hide c8
      have H_c9 := hide c9
      have H_c10 := hide c10
      have H_c11 := hide c11
      have H_c12 := hide c12
      have H_kF := hide kF
      clear kS b3 q11 kM kZ c1 c3 c4 c6 c8 c9 c10 c11 c12 kF
      subst z14_
      subst z
      clear h0 hd
      rw [if_pos (by rfl)]
      go_simp
      exact unhide hK _ _ ⟨u0, u1, u2, u3, u4, u5, u6, u7, u8, u9, u10, u11, u12, true, false, r, p, vq, cq, rfl, rfl, unhide H_kS, unhide H_b3, unhide H_q11, unhide H_kM, (fun h => nomatch h), unhide H_c1, unhide H_c3, unhide H_c4, unhide H_c6, unhide H_c8, unhide H_c9, unhide H_c10, unhide H_c11, unhide H_c12, (fun h => nomatch h)⟩
    · intro h0 hd K hK
      have z : u14 = false := h0
      have zd : u12 = true ∧ u13 = true ∧ u0 = true ∧ u1 = true ∧ u2 = true ∧ u3 = true ∧ u4 = true ∧ u5 = true ∧ u6 = true ∧ u7 = true ∧ u8 = true ∧ u9 = true ∧ u10 = true ∧ u11 = true := by
        simp [Region.binds] at hd
        simp_all
      have H_kS := hide kS
      have H_b3 := hide b3
      have H_q11 := hide q11
      have H_kM := hide kM
      have H_kZ := hide kZ
      have H_c1 := hide c1
      have H_c3 := hide c3
      have H_c4 := hide c4
      have H_c6 := hide c6
      have H_c8 := hide c8
      have H_c9 := hide c9
      have H_c10 := hide c10
      have H_c11 := hide c11
      have H_c12 := hide c12
      have H_kF := hide kF
      clear kS b3 q11 kM kZ c1 c3 c4 c6 c8 c9 c10 c11 c12 kF
      obtain ⟨rfl, rfl, rfl, rfl, rfl, rfl, rfl, rfl, rfl, rfl, rfl, rfl, rfl, rfl⟩ := zd
      subst z
      clear h0 hd
      rw [if_pos (by rfl)]
      have v8 := (unhide H_kM rfl rfl).1
      have cc := v8.cell (m := 2) rfl
      have cf := v8.frozen
      have clt := v8.lt
      clear v8
      go_simp
      exact unhide hK _ _ ⟨true, true, true, true, true, true, true, true, true, true, true, true, true, true, true, r, p, vq, cq, rfl, rfl, (fun h => nomatch h), unhide H_b3, (fun _ h => nomatch h), (fun _ h => nomatch h), (fun _ => (unhide H_kM rfl rfl).2), (fun _ => rfl), (fun _ => rfl), (fun _ => rfl), (fun _ => rfl), (fun _ => ⟨rfl, rfl⟩), (fun _ => rfl), (fun _ => ⟨rfl, rfl⟩), (fun _ => rfl), (fun _ => ⟨rfl, rfl⟩), (fun _ => ⟨rfl, rfl, rfl, rfl, rfl, rfl, rfl, rfl, rfl, rfl, rfl, rfl, rfl, rfl⟩)⟩
  case hend =>
    rintro Lb A W ⟨u0, u1, u2, u3, u4, u5, u6, u7, u8, u9, u10, u11, u12, u13, u14, r, p, vq, cq, rfl, rfl, kS, b3, q11, kM, kZ, c1, c3, c4, c6, c8, c9, c10, c11, c12, kF⟩ hL
    have hl : u0 = true ∧ u1 = true ∧ u2 = true ∧ u3 = true ∧ u4 = true ∧ u5 = true ∧ u6 = true ∧ u7 = true ∧ u8 = true ∧ u9 = true ∧ u10 = true ∧ u11 = true ∧ u12 = true ∧ u13 = true ∧ u14 = true := by
      have h2 := congrArg Array.toList hL
      simpa [List.replicate] using h2
    obtain ⟨rfl, rfl, rfl, rfl, rfl, rfl, rfl, rfl, rfl, rfl, rfl, rfl, rfl, rfl, rfl⟩ := hl
    exact unhide HQ _ _ _ _ _ _ _ _ _ _ _ _ _ _ _ _ _ _ (kZ rfl)

set_option maxHeartbeats 4000000 in
set_option maxRecDepth 100000 in
theorem jb14 {s1 s2 s3 s4 s5 s6 s9 s10 s11 s12 s13 s14 s15 s16 s17 s18 s19 s20 s21 s22 s23 s24 s25 s26 s27 s28 s29 s30 s31 s32 s33 s34 s35 s36 s37 s38 s39 s40 s41 s42 s43 s44 s45 s46 s47 s48 s49 s50 s51 s52 s53 s54 s55 s56 s57 s58 s59 s60 s61 s62 s63 s64 s65 s66 s67 s68 s69 s70 s71 s72 s73 s74 s75 s76 s77 s78 s79 s80 s81 s82 s83 s84 s85 s86 s87 s88 s89 s90 s91 s92 s93 s94 s95 s96 : Value} {w V : World} {B g b7 q np cp ns cs : Nat} {k Wp Hp Ws Hs : Int} {us : Option Addr} {P S : List Int} {K_ : Act → World → Prop} (hk : k ≤ 900000000) (hnp : np ≤ 576) (hnp1 : 1 ≤ np) (hcp : np ≤ cp) (hcm : cp ≤ 9223372036854775807)
    (H2 : Hid (Jz w B g (k) b7 Wp Hp q np cp P Ws Hs us ns cs S V))
    (hQ : ∀ (y64 y65 y66 y67 y68 y69 y70 y71 y72 y73 y74 y75 y76 : Value) (P2 : List Int) (W' : World), Jz w B g (k + 6) b7 Wp Hp q np cp P2 Ws Hs us ns cs S W' → K_ { tmps := #[.pointer (some ⟨g, 0, none⟩), s1, s2, s3, s4, s5, s6, .pointer (some ⟨b7, 0, none⟩), .pointer (some ⟨b7 + 1, 0, none⟩), s9, s10, s11, s12, s13, s14, s15, s16, s17, s18, s19, s20, s21, s22, s23, s24, s25, s26, s27, s28, s29, s30, s31, s32, s33, s34, s35, s36, s37, s38, s39, s40, s41, s42, s43, s44, s45, s46, s47, s48, s49, s50, s51, s52, s53, s54, s55, s56, s57, s58, s59, s60, s61, s62, s63, y64, y65, y66, y67, y68, y69, y70, y71, y72, y73, y74, y75, y76, s77, s78, s79, s80, s81, s82, s83, s84, s85, s86, s87, s88, s89, s90, s91, s92, s93, s94, s95, s96], defers := [] } W') :
    Go.Code.wp Try.prog (reg34 14) (Only K_) { tmps := #[.pointer (some ⟨g, 0, none⟩), s1, s2, s3, s4, s5, s6, .pointer (some ⟨b7, 0, none⟩), .pointer (some ⟨b7 + 1, 0, none⟩), s9, s10, s11, s12, s13, s14, s15, s16, s17, s18, s19, s20, s21, s22, s23, s24, s25, s26, s27, s28, s29, s30, s31, s32, s33, s34, s35, s36, s37, s38, s39, s40, s41, s42, s43, s44, s45, s46, s47, s48, s49, s50, s51, s52, s53, s54, s55, s56, s57, s58, s59, s60, s61, s62, s63, s64, s65, s66, s67, s68, s69, s70, s71, s72, s73, s74, s75, s76, s77, s78, s79, s80, s81, s82, s83, s84, s85, s86, s87, s88, s89, s90, s91, s92, s93, s94, s95, s96], defers := [] } V := by
  have HQ := hide hQ
  clear hQ
  conv => arg 2; whnf
  refine wp_region_inv2 (fun Lb A W => ∃ (u0 u1 u2 u3 u4 u5 u6 u7 u8 u9 u10 u11 u12 u13 : Bool) (rN : Nat) (sN : Nat) (p : Nat), Lb = #[u0, u1, u2, u3, u4, u5, u6, u7, u8, u9, u10, u11, u12, u13] ∧ A = ({ tmps := #[.pointer (some ⟨g, 0, none⟩), s1, s2, s3, s4, s5, s6, .pointer (some ⟨b7, 0, none⟩), .pointer (some ⟨b7 + 1, 0, none⟩), s9, s10, s11, s12, s13, s14, s15, s16, s17, s18, s19, s20, s21, s22, s23, s24, s25, s26, s27, s28, s29, s30, s31, s32, s33, s34, s35, s36, s37, s38, s39, s40, s41, s42, s43, s44, s45, s46, s47, s48, s49, s50, s51, s52, s53, s54, s55, s56, s57, s58, s59, s60, s61, s62, s63, (bif u0 then .pointer (some ⟨b7, 2, none⟩) else s64), (bif u1 then .slice (some ⟨q, 0, none⟩) np cp else s65), (bif u2 then .pointer (some ⟨g, 0, none⟩) else s66), (bif u3 then .pointer (some ⟨b7, 2, none⟩) else s67), (bif u4 then .slice (some ⟨q, 0, none⟩) np cp else s68), (bif u5 then .int .i64 ((np : Int)) else s69), (bif u6 then .int .i64 ((rN : Int)) else s70), (bif u7 then .slice (some ⟨p, 0, none⟩) 3 3 else s71), (bif u8 then .pointer (some ⟨g, 0, none⟩) else s72), (bif u9 then .int .i64 ((sN : Int)) else s73), (bif u10 then .pointer (some ⟨p, sN, none⟩) else s74), (bif u11 then .int .i64 (gt [24, 25, -1] sN) else s75), (bif u12 then .pointer (some ⟨q, rN, none⟩) else s76), s77, s78, s79, s80, s81, s82, s83, s84, s85, s86, s87, s88, s89, s90, s91, s92, s93, s94, s95, s96], defers := [] } : Act) ∧ (u13 = false → Jz w B g (k + (bif u6 then 3 else 0) + (bif u9 then 3 else 0)) b7 Wp Hp q np cp P Ws Hs us ns cs S W) ∧ (u6 = true → (rN : Int) < (np : Int)) ∧ (u9 = true → (sN : Int) < 3) ∧ (u7 = true → u13 = false → iblk W p 3 [24, 25, -1] ∧ p ≠ g) ∧ (u13 = true → Jz w B g (k + 6) b7 Wp Hp q np cp (P.set rN (gt [24, 25, -1] sN)) Ws Hs us ns cs S W) ∧ (u1 = true → u0 = true) ∧ (u4 = true → u3 = true) ∧ (u5 = true → u4 = true) ∧ (u6 = true → u2 = true ∧ u5 = true) ∧ (u9 = true → u8 = true ∧ u6 = true) ∧ (u10 = true → u7 = true ∧ u9 = true) ∧ (u11 = true → u10 = true) ∧ (u12 = true → u1 = true ∧ u6 = true) ∧ (u13 = true → u0 = true ∧ u1 = true ∧ u2 = true ∧ u3 = true ∧ u4 = true ∧ u5 = true ∧ u6 = true ∧ u7 = true ∧ u8 = true ∧ u9 = true ∧ u10 = true ∧ u11 = true ∧ u12 = true)) (by kernel_rfl) (by kernel_rfl) ?h0 ?hstep ?hend
  case h0 =>
    exact ⟨false, false, false, false, false, false, false, false, false, false, false, false, false, false, 0, 0, 0, rfl, rfl, (fun _ => by simpa using (unhide H2).drew), (fun h => nomatch h), (fun h => nomatch h), (fun h => nomatch h), (fun h => nomatch h), (fun h => nomatch h), (fun h => nomatch h), (fun h => nomatch h), (fun h => nomatch h), (fun h => nomatch h), (fun h => nomatch h), (fun h => nomatch h), (fun h => nomatch h), (fun h => nomatch h)⟩
  case hstep =>
    rintro Lb A W ⟨u0, u1, u2, u3, u4, u5, u6, u7, u8, u9, u10, u11, u12, u13, rN, sN, p, rfl, rfl, kS, b6, b9, q7, kZ, c1, c4, c5, c6, c9, c10, c11, c12, kF⟩
    refine ⟨?_, ?_, ?_, ?_, ?_, ?_, ?_, ?_, ?_, ?_, ?_, ?_, ?_, ?_, trivial⟩
    · intro h0 hd K hK
      have z : u0 = false := h0
      have z13_ : u13 = false := by
        cases hu : u13 with
        | false => rfl
        | true => exact nomatch z.symm.trans ((kF hu).1)
      have H_kS := hide kS
      have H_b6 := hide b6
      have H_b9 := hide b9
      have H_q7 := hide q7
      have H_kZ := hide kZ
      have H_c1 := hide c1
      have H_c4 := hide c4
      have H_c5 := hide c5
      have H_c6 := hide c6
      have H_c9 := hide c9
      have H_c10 := hide c10
      have H_c11 := hide c11
      have H_c12 := hide c12
      have H_kF := hide kF
      clear kS b6 b9 q7 kZ c1 c4 c5 c6 c9 c10 c11 c12 kF
      subst z13_
      subst z
      clear h0 hd
      rw [if_pos (by rfl)]
      go_simp
      exact unhide hK _ _ ⟨true, u1, u2, u3, u4, u5, u6, u7, u8, u9, u10, u11, u12, false, rN, sN, p, rfl, rfl, unhide H_kS, unhide H_b6, unhide H_b9, unhide H_q7, (fun h => nomatch h), (fun h => rfl), unhide H_c4, unhide H_c5, unhide H_c6, unhide H_c9, unhide H_c10, unhide H_c11, unhide H_c12, (fun h => nomatch h)⟩
    · intro h0 hd K hK
      have z : u1 = false := h0
      have z13_ : u13 = false := by
        cases hu : u13 with
        | false => rfl
        | true => exact nomatch z.symm.trans ((kF hu).2.1)
      have zd : u0 = true := by
        simp [Region.binds] at hd
        simp [hd]
      have H_kS := hide kS
      have H_b6 := hide b6
      have H_b9 := hide b9
      have H_q7 := hide q7
      have H_kZ := hide kZ
      have H_c1 := hide c1
      have H_c4 := hide c4
      have H_c5 := hide c5
      have H_c6 := hide c6
      have H_c9 := hide c9
      have H_c10 := hide c10
      have H_c11 := hide c11
      have H_c12 := hide c12
      have H_kF := hide kF
      clear kS b6 b9 q7 kZ c1 c4 c5 c6 c9 c10 c11 c12 kF
      obtain ⟨rfl⟩ := zd
      subst z13_
      subst z
      clear h0 hd
      rw [if_pos (by rfl)]
      have cc := (unhide H_kS rfl).v7.cell (m := 2) rfl
      go_simp
      exact unhide hK _ _ ⟨true, true, u2, u3, u4, u5, u6, u7, u8, u9, u10, u11, u12, false, rN, sN, p, rfl, rfl, unhide H_kS, unhide H_b6, unhide H_b9, unhide H_q7, (fun h => nomatch h), (fun _ => rfl), unhide H_c4, unhide H_c5, unhide H_c6, unhide H_c9, unhide H_c10, unhide H_c11, (fun h => ⟨rfl, (unhide H_c12 h).2⟩), (fun h => nomatch h)⟩
    · intro h0 hd K hK
      have z : u2 = false := h0
      have z13_ : u13 = false := by
        cases hu : u13 with
        | false => rfl
        | true => exact nomatch z.symm.trans ((kF hu).2.2.1)
      have H_kS := hide kS
      have H_b6 := hide b6
      have H_b9 := hide b9
      have H_q7 := hide q7
      have H_kZ := hide kZ
      have H_c1 := hide c1
      have H_c4 := hide c4
      have H_c5 := hide c5
      have H_c6 := hide c6
      have H_c9 := hide c9
      have H_c10 := hide c10
      have H_c11 := hide c11
      have H_c12 := hide c12
      have H_kF := hide kF
      clear kS b6 b9 q7 kZ c1 c4 c5 c6 c9 c10 c11 c12 kF
      subst z13_
      subst z
      clear h0 hd
      rw [if_pos (by rfl)]
      go_simp
      exact unhide hK _ _ ⟨u0, u1, true, u3, u4, u5, u6, u7, u8, u9, u10, u11, u12, false, rN, sN, p, rfl, rfl, unhide H_kS, unhide H_b6, unhide H_b9, unhide H_q7, (fun h => nomatch h), unhide H_c1, unhide H_c4, unhide H_c5, (fun h => ⟨rfl, (unhide H_c6 h).2⟩), unhide H_c9, unhide H_c10, unhide H_c11, unhide H_c12, (fun h => nomatch h)⟩
    · intro h0 hd K hK
      have z : u3 = false := h0
      have z13_ : u13 = false := by
        cases hu : u13 with
        | false => rfl
        | true => exact nomatch z.symm.trans ((kF hu).2.2.2.1)
      have H_kS := hide kS
      have H_b6 := hide b6
      have H_b9 := hide b9
      have H_q7 := hide q7
      have H_kZ := hide kZ
      have H_c1 := hide c1
      have H_c4 := hide c4
      have H_c5 := hide c5
      have H_c6 := hide c6
      have H_c9 := hide c9
      have H_c10 := hide c10
      have H_c11 := hide c11
      have H_c12 := hide c12
      have H_kF := hide kF
      clear kS b6 b9 q7 kZ c1 c4 c5 c6 c9 c10 c11 c12 kF
      subst z13_
      subst z
      clear h0 hd
      rw [if_pos (by rfl)]
      go_simp
      exact unhide hK _ _ ⟨u0, u1, u2, true, u4, u5, u6, u7, u8, u9, u10, u11, u12, false, rN, sN, p, rfl, rfl, unhide H_kS, unhide H_b6, unhide H_b9, unhide H_q7, (fun h => nomatch h), unhide H_c1, (fun h => rfl), unhide H_c5, unhide H_c6, unhide H_c9, unhide H_c10, unhide H_c11, unhide H_c12, (fun h => nomatch h)⟩
    · intro h0 hd K hK
      have z : u4 = false := h0
      have z13_ : u13 = false := by
        cases hu : u13 with
        | false => rfl
        | true => exact nomatch z.symm.trans ((kF hu).2.2.2.2.1)
      have zd : u3 = true := by
        simp [Region.binds] at hd
        simp [hd]
      have H_kS := hide kS
      have H_b6 := hide b6
      have H_b9 := hide b9
      have H_q7 := hide q7
      have H_kZ := hide kZ
      have H_c1 := hide c1
      have H_c4 := hide c4
      have H_c5 := hide c5
      have H_c6 := hide c6
      have H_c9 := hide c9
      have H_c10 := hide c10
      have H_c11 := hide c11
      have H_c12 := hide c12
      have H_kF := hide kF
      clear kS b6 b9 q7 kZ c1 c4 c5 c6 c9 c10 c11 c12 kF
      obtain ⟨rfl⟩ := zd
      subst z13_
      subst z
      clear h0 hd
      rw [if_pos (by rfl)]
      have cc := (unhide H_kS rfl).v7.cell (m := 2) rfl
      go_simp
      exact unhide hK _ _ ⟨u0, u1, u2, true, true, u5, u6, u7, u8, u9, u10, u11, u12, false, rN, sN, p, rfl, rfl, unhide H_kS, unhide H_b6, unhide H_b9, unhide H_q7, (fun h => nomatch h), unhide H_c1, (fun _ => rfl), (fun h => rfl), unhide H_c6, unhide H_c9, unhide H_c10, unhide H_c11, unhide H_c12, (fun h => nomatch h)⟩
    · intro h0 hd K hK
      have z : u5 = false := h0
      have z13_ : u13 = false := by
        cases hu : u13 with
        | false => rfl
        | true => exact nomatch z.symm.trans ((kF hu).2.2.2.2.2.1)
      have zd : u4 = true := by
        simp [Region.binds] at hd
        simp [hd]
      have H_kS := hide kS
      have H_b6 := hide b6
      have H_b9 := hide b9
      have H_q7 := hide q7
      have H_kZ := hide kZ
      have H_c1 := hide c1
      have H_c4 := hide c4
      have H_c5 := hide c5
      have H_c6 := hide c6
      have H_c9 := hide c9
      have H_c10 := hide c10
      have H_c11 := hide c11
      have H_c12 := hide c12
      have H_kF := hide kF
      clear kS b6 b9 q7 kZ c1 c4 c5 c6 c9 c10 c11 c12 kF
      obtain ⟨rfl⟩ := zd
      subst z13_
      subst z
      clear h0 hd
      rw [if_pos (by rfl)]
      go_simp
      exact unhide hK _ _ ⟨u0, u1, u2, u3, true, true, u6, u7, u8, u9, u10, u11, u12, false, rN, sN, p, rfl, rfl, unhide H_kS, unhide H_b6, unhide H_b9, unhide H_q7, (fun h => nomatch h), unhide H_c1, unhide H_c4, (fun _ => rfl), (fun h => ⟨(unhide H_c6 h).1, rfl⟩), unhide H_c9, unhide H_c10, unhide H_c11, unhide H_c12, (fun h => nomatch h)⟩
    · intro h0 hd K hK
      have z : u6 = false := h0
      have z13_ : u13 = false := by
        cases hu : u13 with
        | false => rfl
        | true => exact nomatch z.symm.trans ((kF hu).2.2.2.2.2.2.1)
      have z9_ : u9 = false := by
        cases hu : u9 with
        | false => rfl
        | true => exact nomatch z.symm.trans ((c9 hu).2)
      have z10_ : u10 = false := by
        cases hu : u10 with
        | false => rfl
        | true => exact nomatch z.symm.trans ((c9 (c10 hu).2).2)
      have z11_ : u11 = false := by
        cases hu : u11 with
        | false => rfl
        | true => exact nomatch z.symm.trans ((c9 (c10 (c11 hu)).2).2)
      have z12_ : u12 = false := by
        cases hu : u12 with
        | false => rfl
        | true => exact nomatch z.symm.trans ((c12 hu).2)
      have zd : u2 = true ∧ u5 = true := by
        simp [Region.binds] at hd
        simp [hd]
      have H_kS := hide kS
      have H_b6 := hide b6
      have H_b9 := hide b9
      have H_q7 := hide q7
      have H_kZ := hide kZ
      have H_c1 := hide c1
      have H_c4 := hide c4
      have H_c5 := hide c5
      have H_c6 := hide c6
      have H_c9 := hide c9
      have H_c10 := hide c10
      have H_c11 := hide c11
      have H_c12 := hide c12
      have H_kF := hide kF
      clear kS b6 b9 q7 kZ c1 c4 c5 c6 c9 c10 c11 c12 kF
      obtain ⟨rfl, rfl⟩ := zd
      subst z13_
      subst z9_
      subst z10_
      subst z11_
      subst z12_
      subst z
      clear h0 hd
      rw [if_pos (by rfl)]
      have HSS : Jz w B g (k) b7 Wp Hp q np cp P Ws Hs us ns cs S W := by have := unhide H_kS rfl; simpa using this
      go_simp
      refine (next_any (k := k) (np : Int) HSS.so (by omega) (by omega) (by omega)).mono ?_
      rintro e w8 ⟨r, rfl, hr1, hr2, hs, mv⟩
      obtain ⟨nN, rfl⟩ := Int.eq_ofNat_of_zero_le hr1
      exact unhide hK _ _ ⟨u0, u1, true, u3, u4, true, true, u7, u8, false, false, false, false, false, nN, sN, p, rfl, rfl, (fun _ => by have := HSS.step hs mv; simp; exact this.up (by omega)), (fun _ => hr2), (fun h => nomatch h), (fun h h2 => ⟨(mv.block _ (unhide H_q7 h h2).1.lt (unhide H_q7 h h2).2).trans (unhide H_q7 h h2).1, (unhide H_q7 h h2).2⟩), (fun h => nomatch h), unhide H_c1, unhide H_c4, unhide H_c5, (fun _ => ⟨rfl, rfl⟩), (fun h => nomatch h), (fun h => nomatch h), (fun h => nomatch h), (fun h => nomatch h), (fun h => nomatch h)⟩
    · intro h0 hd K hK
      have z : u7 = false := h0
      have z13_ : u13 = false := by
        cases hu : u13 with
        | false => rfl
        | true => exact nomatch z.symm.trans ((kF hu).2.2.2.2.2.2.2.1)
      have z10_ : u10 = false := by
        cases hu : u10 with
        | false => rfl
        | true => exact nomatch z.symm.trans ((c10 hu).1)
      have z11_ : u11 = false := by
        cases hu : u11 with
        | false => rfl
        | true => exact nomatch z.symm.trans ((c10 (c11 hu)).1)
      have H_kS := hide kS
      have H_b6 := hide b6
      have H_b9 := hide b9
      have H_q7 := hide q7
      have H_kZ := hide kZ
      have H_c1 := hide c1
      have H_c4 := hide c4
      have H_c5 := hide c5
      have H_c6 := hide c6
      have H_c9 := hide c9
      have H_c10 := hide c10
      have H_c11 := hide c11
      have H_c12 := hide c12
      have H_kF := hide kF
      clear kS b6 b9 q7 kZ c1 c4 c5 c6 c9 c10 c11 c12 kF
      subst z13_
      subst z10_
      subst z11_
      subst z
      clear h0 hd
      rw [if_pos (by rfl)]
      go_simp
      exact unhide hK _ _ ⟨u0, u1, u2, u3, u4, u5, u6, true, u8, u9, false, false, u12, false, rN, sN, W.heap.size, rfl, rfl, (fun _ => (unhide H_kS rfl).alloc _), unhide H_b6, unhide H_b9, (fun _ _ => ⟨heap_alloc_new W _, by have := (unhide H_kS rfl).so.lt; omega⟩), (fun h => nomatch h), unhide H_c1, unhide H_c4, unhide H_c5, unhide H_c6, unhide H_c9, (fun h => nomatch h), (fun h => nomatch h), unhide H_c12, (fun h => nomatch h)⟩
    · intro h0 hd K hK
      have z : u8 = false := h0
      have z13_ : u13 = false := by
        cases hu : u13 with
        | false => rfl
        | true => exact nomatch z.symm.trans ((kF hu).2.2.2.2.2.2.2.2.1)
      have H_kS := hide kS
      have H_b6 := hide b6
      have H_b9 := hide b9
      have H_q7 := hide q7
      have H_kZ := hide kZ
      have H_c1 := hide c1
      have H_c4 := hide c4
      have H_c5 := hide c5
      have H_c6 := hide c6
      have H_c9 := hide c9
      have H_c10 := hide c10
      have H_c11 := hide c11
      have H_c12 := hide c12
      have H_kF := hide kF
      clear kS b6 b9 q7 kZ c1 c4 c5 c6 c9 c10 c11 c12 kF
      subst z13_
      subst z
      clear h0 hd
      rw [if_pos (by rfl)]
      go_simp
      exact unhide hK _ _ ⟨u0, u1, u2, u3, u4, u5, u6, u7, true, u9, u10, u11, u12, false, rN, sN, p, rfl, rfl, unhide H_kS, unhide H_b6, unhide H_b9, unhide H_q7, (fun h => nomatch h), unhide H_c1, unhide H_c4, unhide H_c5, unhide H_c6, (fun h => ⟨rfl, (unhide H_c9 h).2⟩), unhide H_c10, unhide H_c11, unhide H_c12, (fun h => nomatch h)⟩
    · intro h0 hd K hK
      have z : u9 = false := h0
      have z13_ : u13 = false := by
        cases hu : u13 with
        | false => rfl
        | true => exact nomatch z.symm.trans ((kF hu).2.2.2.2.2.2.2.2.2.1)
      have z10_ : u10 = false := by
        cases hu : u10 with
        | false => rfl
        | true => exact nomatch z.symm.trans ((c10 hu).2)
      have z11_ : u11 = false := by
        cases hu : u11 with
        | false => rfl
        | true => exact nomatch z.symm.trans ((c10 (c11 hu)).2)
      have zd : u8 = true ∧ u6 = true := by
        simp [Region.binds] at hd
        simp [hd]
      have H_kS := hide kS
      have H_b6 := hide b6
      have H_b9 := hide b9
      have H_q7 := hide q7
      have H_kZ := hide kZ
      have H_c1 := hide c1
      have H_c4 := hide c4
      have H_c5 := hide c5
      have H_c6 := hide c6
      have H_c9 := hide c9
      have H_c10 := hide c10
      have H_c11 := hide c11
      have H_c12 := hide c12
      have H_kF := hide kF
      clear kS b6 b9 q7 kZ c1 c4 c5 c6 c9 c10 c11 c12 kF
      obtain ⟨rfl, rfl⟩ := zd
      subst z13_
      subst z10_
      subst z11_
      subst z
      clear h0 hd
      rw [if_pos (by rfl)]
      have HSS : Jz w B g (k + 3) b7 Wp Hp q np cp P Ws Hs us ns cs S W := by have := unhide H_kS rfl; simpa using this
      go_simp
      refine (next_any (k := k + 3) 3 HSS.so (by omega) (by omega) (by omega)).mono ?_
      rintro e w8 ⟨r, rfl, hr1, hr2, hs, mv⟩
      obtain ⟨nN, rfl⟩ := Int.eq_ofNat_of_zero_le hr1
      exact unhide hK _ _ ⟨u0, u1, u2, u3, u4, u5, true, u7, true, true, false, false, u12, false, rN, nN, p, rfl, rfl, (fun _ => by have := HSS.step hs mv; simp; exact this.up (by omega)), unhide H_b6, (fun _ => hr2), (fun h h2 => ⟨(mv.block _ (unhide H_q7 h h2).1.lt (unhide H_q7 h h2).2).trans (unhide H_q7 h h2).1, (unhide H_q7 h h2).2⟩), (fun h => nomatch h), unhide H_c1, unhide H_c4, unhide H_c5, unhide H_c6, (fun _ => ⟨rfl, rfl⟩), (fun h => nomatch h), (fun h => nomatch h), (fun h => ⟨(unhide H_c12 h).1, rfl⟩), (fun h => nomatch h)⟩
    · intro h0 hd K hK
      have z : u10 = false := h0
      have z13_ : u13 = false := by
        cases hu : u13 with
        | false => rfl
        | true => exact nomatch z.symm.trans ((kF hu).2.2.2.2.2.2.2.2.2.2.1)
      have zd : u7 = true ∧ u9 = true := by
        simp [Region.binds] at hd
        simp [hd]
      have H_kS := hide kS
      have H_b6 := hide b6
      have H_b9 := hide b9
      have H_q7 := hide q7
      have H_kZ := hide kZ
      have H_c1 := hide c1
      have H_c4 := hide c4
      have H_c5 := hide c5
      have H_c6 := hide c6
      have H_c9 := hide c9
      have H_c10 := hide c10
      have H_c11 := hide c11
      have H_c12 := hide c12
      have H_kF := hide kF
      clear kS b6 b9 q7 kZ c1 c4 c5 c6 c9 c10 c11 c12 kF
      obtain ⟨rfl, rfl⟩ := zd
      subst z13_
      subst z
      clear h0 hd
      rw [if_pos (by rfl)]
      have hb := unhide H_b9 rfl
      have o4 : sN < 3 := by omega
      have o5 : (0 : Int) ≤ (sN : Int) := Int.natCast_nonneg _
      go_simp
      exact unhide hK _ _ ⟨u0, u1, u2, u3, u4, u5, u6, true, u8, true, true, u11, u12, false, rN, sN, p, rfl, rfl, unhide H_kS, unhide H_b6, unhide H_b9, unhide H_q7, (fun h => nomatch h), unhide H_c1, unhide H_c4, unhide H_c5, unhide H_c6, unhide H_c9, (fun _ => ⟨rfl, rfl⟩), (fun h => rfl), unhide H_c12, (fun h => nomatch h)⟩
    · intro h0 hd K hK
      have z : u11 = false := h0
      have z13_ : u13 = false := by
        cases hu : u13 with
        | false => rfl
        | true => exact nomatch z.symm.trans ((kF hu).2.2.2.2.2.2.2.2.2.2.2.1)
      have zd : u10 = true := by
        simp [Region.binds] at hd
        simp [hd]
      have H_kS := hide kS
      have H_b6 := hide b6
      have H_b9 := hide b9
      have H_q7 := hide q7
      have H_kZ := hide kZ
      have H_c1 := hide c1
      have H_c4 := hide c4
      have H_c5 := hide c5
      have H_c6 := hide c6
      have H_c9 := hide c9
      have H_c10 := hide c10
      have H_c11 := hide c11
      have H_c12 := hide c12
      have H_kF := hide kF
      clear kS b6 b9 q7 kZ c1 c4 c5 c6 c9 c10 c11 c12 kF
      obtain ⟨rfl⟩ := zd
      subst z13_
      subst z
      clear h0 hd
      rw [if_pos (by rfl)]
      have hb := unhide H_b9 (unhide H_c10 rfl).2
      have cc := (unhide H_q7 (unhide H_c10 rfl).1 rfl).1.cell (gtk_some (show sN < 3 by omega))
      go_simp
      exact unhide hK _ _ ⟨u0, u1, u2, u3, u4, u5, u6, u7, u8, u9, true, true, u12, false, rN, sN, p, rfl, rfl, unhide H_kS, unhide H_b6, unhide H_b9, unhide H_q7, (fun h => nomatch h), unhide H_c1, unhide H_c4, unhide H_c5, unhide H_c6, unhide H_c9, unhide H_c10, (fun _ => rfl), unhide H_c12, (fun h => nomatch h)⟩
    · intro h0 hd K hK
      have z : u12 = false := h0
      have z13_ : u13 = false := by
        cases hu : u13 with
        | false => rfl
        | true => exact nomatch z.symm.trans ((kF hu).2.2.2.2.2.2.2.2.2.2.2.2)
      have zd : u1 = true ∧ u6 = true := by
        simp [Region.binds] at hd
        simp [hd]
      have H_kS := hide kS
      have H_b6 := hide b6
      have H_b9 := hide b9
      have H_q7 := hide q7
      have H_kZ := hide kZ
      have H_c1 := hide c1
      have H_c4 := hide c4
      have H_c5 := hide c5
      have H_c6 := hide c6
      have H_c9 := hide c9
      have H_c10 := hide c10
      have H_c11 := hide c11
      have H_c12 := hide c12
      have H_kF := hide kF
      clear kS b6 b9 q7 kZ c1 c4 c5 c6 c9 c10 c11 c12 kF
      obtain ⟨rfl, rfl⟩ := zd
      subst z13_
      subst z
      clear h0 hd
      rw [if_pos (by rfl)]
      have hb := unhide H_b6 rfl
      have o5 : (0 : Int) ≤ (rN : Int) := Int.natCast_nonneg _
      go_simp
      exact unhide hK _ _ ⟨u0, true, u2, u3, u4, u5, true, u7, u8, u9, u10, u11, true, false, rN, sN, p, rfl, rfl, unhide H_kS, unhide H_b6, unhide H_b9, unhide H_q7, (fun h => nomatch h), unhide H_c1, unhide H_c4, unhide H_c5, unhide H_c6, (fun h => ⟨(unhide H_c9 h).1, rfl⟩), unhide H_c10, unhide H_c11, (fun _ => ⟨rfl, rfl⟩), (fun h => nomatch h)⟩
    · intro h0 hd K hK
      have z : u13 = false := h0
      have zd : u11 = true ∧ u12 = true ∧ u0 = true ∧ u1 = true ∧ u2 = true ∧ u3 = true ∧ u4 = true ∧ u5 = true ∧ u6 = true ∧ u7 = true ∧ u8 = true ∧ u9 = true ∧ u10 = true := by
        simp [Region.binds] at hd
        simp_all
      have H_kS := hide kS
      have H_b6 := hide b6
      have H_b9 := hide b9
      have H_q7 := hide q7
      have H_kZ := hide kZ
      have H_c1 := hide c1
      have H_c4 := hide c4
      have H_c5 := hide c5
      have H_c6 := hide c6
      have H_c9 := hide c9
      have H_c10 := hide c10
      have H_c11 := hide c11
      have H_c12 := hide c12
      have H_kF := hide kF
      clear kS b6 b9 q7 kZ c1 c4 c5 c6 c9 c10 c11 c12 kF
      obtain ⟨rfl, rfl, rfl, rfl, rfl, rfl, rfl, rfl, rfl, rfl, rfl, rfl, rfl⟩ := zd
      subst z
      clear h0 hd
      rw [if_pos (by rfl)]
      have HSS := unhide H_kS rfl
      have hb := unhide H_b6 rfl
      obtain ⟨xo, hxo⟩ : ∃ xo, P[rN]? = some xo := ⟨_, List.getElem?_eq_getElem (by have := HSS.rp.len; omega)⟩
      have cq := HSS.rp.cellAt hxo
      have fq := HSS.rp.frz
      have HS5 := hide HSS
      clear HSS hxo
      go_simp
      exact unhide hK _ _ ⟨true, true, true, true, true, true, true, true, true, true, true, true, true, true, rN, sN, p, rfl, rfl, (fun h => nomatch h), unhide H_b6, unhide H_b9, (fun _ h => nomatch h), (fun _ => ((unhide HS5).put (by omega) (gt [24, 25, -1] sN)).up (by simp; omega)), (fun _ => rfl), (fun _ => rfl), (fun _ => rfl), (fun _ => ⟨rfl, rfl⟩), (fun _ => ⟨rfl, rfl⟩), (fun _ => ⟨rfl, rfl⟩), (fun _ => rfl), (fun _ => ⟨rfl, rfl⟩), (fun _ => ⟨rfl, rfl, rfl, rfl, rfl, rfl, rfl, rfl, rfl, rfl, rfl, rfl, rfl⟩)⟩
  case hend =>
    rintro Lb A W ⟨u0, u1, u2, u3, u4, u5, u6, u7, u8, u9, u10, u11, u12, u13, rN, sN, p, rfl, rfl, kS, b6, b9, q7, kZ, c1, c4, c5, c6, c9, c10, c11, c12, kF⟩ hL
    have hl : u0 = true ∧ u1 = true ∧ u2 = true ∧ u3 = true ∧ u4 = true ∧ u5 = true ∧ u6 = true ∧ u7 = true ∧ u8 = true ∧ u9 = true ∧ u10 = true ∧ u11 = true ∧ u12 = true ∧ u13 = true := by
      have h2 := congrArg Array.toList hL
      simpa [List.replicate] using h2
    obtain ⟨rfl, rfl, rfl, rfl, rfl, rfl, rfl, rfl, rfl, rfl, rfl, rfl, rfl, rfl⟩ := hl
    exact unhide HQ _ _ _ _ _ _ _ _ _ _ _ _ _ _ _ (kZ rfl)

end Go.Proofs.Ytjhldjojkaphkaa
