/-
  The statement that lays a name of the first list, walked alone. The program's map of two lists. The program's edits, as a map.
-/
import Derived.Test.YtkkmikgeppkhiaaMga
import Derived.Test.YtkkmikgeppkhiaaInv2
import Derived.Test.YtkkmikgeppkhiaaChMath
namespace Go.Proofs.Ytkkmikgeppkhiaa
open Go.ChangeShapes Go.WideShapes Go.ChangeAt Go.RowKit Go.Maps Go.WideMaps
set_option linter.unusedVariables false
set_option linter.unusedSimpArgs false

section
variable {w : World} {o : Oper} {a : Act} {K : Act → World → Prop} {Q : Exit → Act → World → Prop}
theorem wp_loadAt {P : Program} (ty : TypeId) (x : Operand) (ho : o.op = .load ty x)
    (ad : Addr) (hx : a.eval x = .pointer (some ad)) (v : Value) (hrun : (loadVar ty ad).run P w = .ok v w) (h : K (a.put o.dst v) w) : Oper.wp P o a w K Q := by
  unfold Oper.wp
  simp only [execOp, ho, Instr.loadAt, Instr.sureAddr, hx, Sem.run_bind, Sem.run_pure, Result.andThen_ok, hrun]
  exact h
theorem wp_build1 {P : Program} (t : TypeId) (i : Nat) (x : Operand) (ho : o.op = .build t #[(i, x)]) (v : Value) (hx : a.eval x = v) (cells : Array Value) (hb : P.built t [(i, v)] = some cells) (h : K (a.put o.dst (.agg cells)) w) : Oper.wp P o a w K Q := by
  refine wp_build t #[(i, x)] ho (by simp [hx, hb]) ?_
  simpa [hx, hb] using h
theorem wp_putB (m x v : Operand) (t : TypeId) (hop : o.op = Op.mapUpdate t m x v) (ht : Try.prog.underlying t = some (.map 9 68)) (b n : Nat) (f : ByteArray → Option Two)
    (hm : a.eval m = .map (some b)) (hmp : Mp w b n f) (hn : n < maxLen) (s : ByteArray) (p : Two) (A : Array Value) (hA : Bl A p) (hx : a.eval x = .string s) (hv : a.eval v = .agg A) (hs : s.size ≤ maxLen)
    (h : ∀ w', Mp w' b (n + 1) (up f s p) → w.mapTurned w' b → K (a.put o.dst undef) w') : Oper.wp Try.prog o a w K Q := by
  obtain ⟨w', hrun, r1, r2⟩ := hmp.store ht hn s hs p
  rw [hA.v] at hrun
  unfold Oper.wp
  simp [execOp, hop, hm, hx, hv, hrun, Result.andThen]
  exact h w' r1 r2
end
noncomputable def reg65 (id : Nat) : Go.Code := match Try.f65.body with | some c => (regOf id c).getD .skip | none => .skip
set_option maxHeartbeats 4000000 in
set_option maxRecDepth 100000 in
theorem p65_5 {s0 s1 s3 s4 s5 s6 s8 s10 s11 s12 s13 s14 s15 s16 s17 s18 s19 s20 s21 s22 s23 s24 s25 s26 s27 s28 s29 s30 s31 s32 s33 s34 s35 s36 s37 s38 s39 s40 s41 s42 s43 s44 s45 : Value} {B0 g n : Nat} {f : ByteArray → Option Two} {x : Ft} {F A : Array Value} {V : World} {K_ : Act → World → Prop} (hn : n < maxLen) (hxs : x.nm.size ≤ maxLen)
    (HM : Hid (Mp V B0 n f)) (HN : Hid (ab V g 57 F)) (HLF : Hid (∀ W, ab W g 57 F → (loadVar 57 ⟨g, 0, none⟩).run Try.prog W = .ok (.agg F) W))
    (HK : Hid (∀ W, Calls Try.prog 66 #[.agg F] W fun e w' => e = .returned (.string x.nm) ∧ Below W.heap.size W w')) (HB : Hid (Try.prog.built 68 [(0, .agg F)] = some A)) (HA : Hid (Bl A (x, ft0)))
    (hQ : ∀ (W' : World), Mp W' B0 (n + 1) (up f x.nm (x, ft0)) → V.grownBy W' (some B0) → K_ { tmps := #[s0, s1, .func (.func 66) #[] #[], s3, s4, s5, s6, .map (some B0), s8, .pointer (some ⟨g, 0, none⟩), s10, s11, s12, s13, s14, s15, s16, s17, s18, s19, .map (some B0), .func (.func 66) #[] #[], .agg F, .string x.nm, .agg F, .agg A, s26, s27, s28, s29, s30, s31, s32, s33, s34, s35, s36, s37, s38, s39, s40, s41, s42, s43, s44, s45], defers := [] } W') :
    (reg65 5).wp Try.prog (Only K_) { tmps := #[s0, s1, .func (.func 66) #[] #[], s3, s4, s5, s6, .map (some B0), s8, .pointer (some ⟨g, 0, none⟩), s10, s11, s12, s13, s14, s15, s16, s17, s18, s19, s20, s21, s22, s23, s24, s25, s26, s27, s28, s29, s30, s31, s32, s33, s34, s35, s36, s37, s38, s39, s40, s41, s42, s43, s44, s45], defers := [] } V := by
  have HQ := hide hQ
  clear hQ
  conv => arg 2; whnf
  refine wp_region_inv (fun Lb A_ W => ∃ (u0 u1 u2 u3 u4 u5 u6 : Bool) (dd : Nat), Lb = #[u0, u1, u2, u3, u4, u5, u6] ∧ A_ = ({ tmps := #[s0, s1, .func (.func 66) #[] #[], s3, s4, s5, s6, .map (some B0), s8, .pointer (some ⟨g, 0, none⟩), s10, s11, s12, s13, s14, s15, s16, s17, s18, s19, (bif u0 then .map (some B0) else s20), (bif u1 then .func (.func 66) #[] #[] else s21), (bif u2 then .agg F else s22), (bif u3 then .string x.nm else s23), (bif u4 then .agg F else s24), (bif u5 then .agg A else s25), s26, s27, s28, s29, s30, s31, s32, s33, s34, s35, s36, s37, s38, s39, s40, s41, s42, s43, s44, s45], defers := [] } : Act) ∧ (u6 = false → Below V.heap.size V W) ∧ (u6 = true → Mp W B0 (n + 1) (up f x.nm (x, ft0)) ∧ V.grownBy W (some B0)) ∧ (u3 = true → u1 = true ∧ u2 = true) ∧ (u5 = true → u4 = true) ∧ (u6 = true → u0 = true ∧ u1 = true ∧ u2 = true ∧ u3 = true ∧ u4 = true ∧ u5 = true)) (by kernel_rfl) (by kernel_rfl) ?h0 ?hstep ?hend
  case h0 =>
    exact ⟨false, false, false, false, false, false, false, 0, rfl, rfl, (fun _ => Below.drew (Below.refl _ _)), zf, zf, zf, zf⟩
  case hstep =>
    intro Lb A_ W hI
    obtain ⟨u0, u1, u2, u3, u4, hI⟩ := hI
    obtain ⟨u5, u6, dd, hI⟩ := hI
    obtain ⟨hLb, hI⟩ := hI
    obtain ⟨hA, hI⟩ := hI
    obtain ⟨kS, hI⟩ := hI
    obtain ⟨kE, hI⟩ := hI
    obtain ⟨l3, hI⟩ := hI
    obtain ⟨l5, hI⟩ := hI
    have kF := hI
    clear hI
    subst hLb
    subst hA
    replace kS := hide kS
    replace kE := hide kE
    replace l3 := hide l3
    replace l5 := hide l5
    replace kF := hide kF
    refine ⟨?_, ?_, ?_, ?_, ?_, ?_, ?_, trivial⟩
    · intro h0 hd K hK
      have z : u0 = false := h0
      have z6_ : u6 = false := znb fun hu => z.symm.trans ((zu kF hu).1)
      subst z6_
      subst z
      clear h0 hd
      rw [if_pos (by rfl)]
      go_simp
      exact unhide hK _ _ ⟨true, u1, u2, u3, u4, u5, false, dd, rfl, rfl, (fun _ => (zu kS rfl)), zf, zu l3, zu l5, zf⟩
    · intro h0 hd K hK
      have z : u1 = false := h0
      have z6_ : u6 = false := znb fun hu => z.symm.trans ((zu kF hu).2.1)
      subst z6_
      subst z
      clear h0 hd
      rw [if_pos (by rfl)]
      go_simp
      exact unhide hK _ _ ⟨u0, true, u2, u3, u4, u5, false, dd, rfl, rfl, (fun _ => (zu kS rfl)), zf, (fun h => ⟨rfl, (zu l3 h).2⟩), zu l5, zf⟩
    · intro h0 hd K hK
      have z : u2 = false := h0
      have z6_ : u6 = false := znb fun hu => z.symm.trans ((zu kF hu).2.2.1)
      subst z6_
      subst z
      clear h0 hd
      rw [if_pos (by rfl)]
      refine wp_loadAt 57 (.tmp 9) (by rfl) ⟨g, 0, none⟩ (by rfl) (.agg F) (unhide HLF _ ((unhide HN).bel (zu kS rfl))) ?_
      go_frame
      exact unhide hK _ _ ⟨u0, u1, true, u3, u4, u5, false, dd, rfl, rfl, (fun _ => (zu kS rfl)), zf, (fun h => ⟨(zu l3 h).1, rfl⟩), zu l5, zf⟩
    · intro h0 hd K hK
      have z : u3 = false := h0
      have z6_ : u6 = false := znb fun hu => z.symm.trans ((zu kF hu).2.2.2.1)
      have zd : u1 = true ∧ u2 = true := by
        simp [Region.binds] at hd
        simp [hd]
      obtain ⟨rfl, rfl⟩ := zd
      subst z6_
      subst z
      clear h0 hd
      rw [if_pos (by rfl)]
      go_simp
      refine (unhide HK _).mono ?_
      rintro e w8 ⟨rfl, hb8⟩
      exact unhide hK _ _ ⟨u0, true, true, true, u4, u5, false, dd, rfl, rfl, (fun _ => bc (zu kS rfl) hb8), zf, (fun _ => ⟨rfl, rfl⟩), zu l5, zf⟩
    · intro h0 hd K hK
      have z : u4 = false := h0
      have z6_ : u6 = false := znb fun hu => z.symm.trans ((zu kF hu).2.2.2.2.1)
      subst z6_
      subst z
      clear h0 hd
      rw [if_pos (by rfl)]
      refine wp_loadAt 57 (.tmp 9) (by rfl) ⟨g, 0, none⟩ (by rfl) (.agg F) (unhide HLF _ ((unhide HN).bel (zu kS rfl))) ?_
      go_frame
      exact unhide hK _ _ ⟨u0, u1, u2, u3, true, u5, false, dd, rfl, rfl, (fun _ => (zu kS rfl)), zf, zu l3, (fun h => rfl), zf⟩
    · intro h0 hd K hK
      have z : u5 = false := h0
      have z6_ : u6 = false := znb fun hu => z.symm.trans ((zu kF hu).2.2.2.2.2)
      have zd : u4 = true := by
        simp [Region.binds] at hd
        simp [hd]
      obtain ⟨rfl⟩ := zd
      subst z6_
      subst z
      clear h0 hd
      rw [if_pos (by rfl)]
      refine wp_build1 68 0 (.tmp 24) (by rfl) (.agg F) (by rfl) A (unhide HB) ?_
      go_frame
      exact unhide hK _ _ ⟨u0, u1, u2, u3, true, true, false, dd, rfl, rfl, (fun _ => (zu kS rfl)), zf, zu l3, (fun _ => rfl), zf⟩
    · intro h0 hd K hK
      have z : u6 = false := h0
      have zd0 : u0 = true ∧ u3 = true ∧ u5 = true := by
        simp [Region.binds] at hd
        simp [hd]
      have zd : u0 = true ∧ u3 = true ∧ u5 = true ∧ u1 = true ∧ u2 = true ∧ u4 = true := ⟨zd0.1, zd0.2.1, zd0.2.2, (zu l3 zd0.2.1).1, (zu l3 zd0.2.1).2, (zu l5 zd0.2.2)⟩
      obtain ⟨rfl, rfl, rfl, rfl, rfl, rfl⟩ := zd
      subst z
      clear h0 hd
      rw [if_pos (by rfl)]
      refine wp_putB (.tmp 20) (.tmp 23) (.tmp 25) 60 (by rfl) und60 B0 n f (by rfl) ((unhide HM).bel (zu kS rfl)) hn x.nm (x, ft0) A (unhide HA) (by rfl) (by rfl) hxs ?_
      intro w2 hm2 ht2
      try go_frame
      exact unhide hK _ _ ⟨true, true, true, true, true, true, true, dd, rfl, rfl, (fun h => Bool.noConfusion h), (fun _ => ⟨hm2, gb_trans (gb_of (zu kS rfl) _) ht2.grown (fun j hj => by cases hj; exact Or.inr rfl)⟩), (fun _ => ⟨rfl, rfl⟩), (fun _ => rfl), (fun _ => ⟨rfl, rfl, rfl, rfl, rfl, rfl⟩)⟩
  case hend =>
    intro Lb A_ W hI
    obtain ⟨u0, u1, u2, u3, u4, hI⟩ := hI
    obtain ⟨u5, u6, dd, hI⟩ := hI
    obtain ⟨hLb, hI⟩ := hI
    obtain ⟨hA, hI⟩ := hI
    obtain ⟨kS, hI⟩ := hI
    obtain ⟨kE, hI⟩ := hI
    obtain ⟨l3, hI⟩ := hI
    obtain ⟨l5, hI⟩ := hI
    have kF := hI
    clear hI
    subst hLb
    subst hA
    intro hL
    have hl : u0 = true ∧ u1 = true ∧ u2 = true ∧ u3 = true ∧ u4 = true ∧ u5 = true ∧ u6 = true := by
      have h2 := congrArg Array.toList hL
      simpa [List.replicate] using h2
    obtain ⟨rfl, rfl, rfl, rfl, rfl, rfl, rfl⟩ := hl
    exact unhide HQ _ (kE rfl).1 (kE rfl).2
end Go.Proofs.Ytkkmikgeppkhiaa

namespace Go.Proofs.Ytkkmikgeppkhiaa
open Go.ChangeShapes Go.WideShapes Go.ChangeAt Go.RowKit Go.Maps Go.WideMaps
set_option linter.unusedVariables false
set_option linter.unusedSimpArgs false

theorem SlG.load {F : Array Value} {f : Ft} (hF : Fl F f) {w : World} {u : Option Addr} {p po : Nat} {fs : List Ft} (h : SlG ftc 15 w u p po fs) {i : Nat} (hi : fs[i]? = some f) : u = some ⟨p, po, none⟩ ∧ p < w.heap.size ∧ (loadVar 57 ⟨p, po + i * 15, none⟩).run Try.prog w = .ok (.agg F) w := by
  obtain ⟨e, hl, hc⟩ := h.at hi
  exact ⟨e, hl, hF.load hc⟩
theorem wpl_build2 {P : Program} {ops : Array Oper} {rest : List Oper} {o : Oper} {a : Act} {w : World} {Q : Exit → Act → World → Prop} (hg : o.guard = none) (t : TypeId) (i j : Nat) (x y : Operand) (ho : o.op = .build t #[(i, x), (j, y)]) (v u : Value) (hx : a.eval x = v) (hy : a.eval y = u) (cells : Array Value)
    (hb : P.built t [(i, v), (j, u)] = some cells) (h : wpList P ops Q rest (a.put o.dst (.agg cells)) w) : wpList P ops Q (o :: rest) a w := by
  refine wpl_build hg t _ ho cells ?_ h
  simp [hx, hy, hb]
theorem wpl_putA {ops : Array Oper} {rest : List Oper} {o : Oper} {a : Act} {w : World} {Q : Exit → Act → World → Prop} (hg : o.guard = none) (m x v : Operand) (t : TypeId) (hop : o.op = Op.mapUpdate t m x v) (ht : Try.prog.underlying t = some (.map 9 68)) (b n : Nat) (f : ByteArray → Option Two)
    (hm : a.eval m = .map (some b)) (hmp : Mp w b n f) (hn : n < maxLen) (s : ByteArray) (p : Two) (A : Array Value) (hA : Bl A p) (hx : a.eval x = .string s) (hv : a.eval v = .agg A) (hs : s.size ≤ maxLen)
    (h : ∀ w', Mp w' b (n + 1) (up f s p) → w.mapTurned w' b → wpList Try.prog ops Q rest (a.put o.dst undef) w') : wpList Try.prog ops Q (o :: rest) a w :=
  wpl_putB w hg m x v t hop ht b n f hm hmp hn s p hx (by rw [hv, hA.v]) hs h
set_option maxRecDepth 100000 in
set_option maxHeartbeats 8000000 in
theorem both_any (u1 : Option Addr) (p1 o1 n1 c1 : Nat) (B : List Ft) (u2 : Option Addr) (p2 o2 n2 c2 : Nat) (L : List Ft) (w : World) (hl1 : B.length = n1) (hn1 : n1 ≤ 4096) (hu1 : SlG ftc 15 w u1 p1 o1 B) (hl2 : L.length = n2) (hn2 : n2 ≤ 4096) (hu2 : SlG ftc 15 w u2 p2 o2 L)
    (hd1 : Dif B) (hd2 : Dif L) (hs1 : ∀ f ∈ B, f.nm.size ≤ maxLen) (hs2 : ∀ f ∈ L, f.nm.size ≤ maxLen) :
    Calls Try.prog 65 #[.slice u1 n1 c1, .slice u2 n2 c2, .func (.func 66) #[] #[]] w fun e w' => e = .returned (.map (some w.heap.size)) ∧ Mp w' w.heap.size (n1 + n2) (pr B L) ∧ Below w.heap.size w w' := by
  have HU1 := hide hu1
  have HU2 := hide hu2
  have HL1 := hide hl1
  have HL2 := hide hl2
  have HS1 := hide (fun i f (h : B[i]? = some f) => (⟨hs1 f (List.mem_of_getElem? h), fun s => st1_succ hd1 h s⟩ : f.nm.size ≤ maxLen ∧ ∀ s, up (st1 B i) f.nm (f, ft0) s = st1 B (i + 1) s))
  have HS2 := hide (fun i f (h : L[i]? = some f) => (⟨hs2 f (List.mem_of_getElem? h), fun s => st2_succ (B := B) hd2 h s⟩ : f.nm.size ≤ maxLen ∧ ∀ s, up (st2 B L i) f.nm ((((st2 B L i f.nm).getD p0).1), f) s = st2 B L (i + 1) s))
  clear hu1 hu2 hl1 hl2 hd1 hd2 hs1 hs2
  have hmm := @run_makeMap Try.prog
  go_enter Try.func65, Try.ntmps65
  go_wp2_with fail
  go_loopw [16] (fun s W => ∃ i : Nat, s = .int .i64 (i : Int) ∧ i ≤ n1 ∧ Mp W w.heap.size i (st1 B i) ∧ Below w.heap.size w W) (fun s _ => n1 - (intOf s).toNat)
  case atStart => exact ⟨0, rfl, Nat.zero_le _, (Mp.made w).congr (st1_zero B), ba (Below.refl _ _) _⟩
  case round =>
    obtain ⟨i, rfl, hi, hm, hw⟩ := hrel
    have HM := hide hm
    have HW := hide hw
    have hml := hm.lt
    clear hm hw
    by_cases h : i < n1
    · have i1 : (i : Int) < (n1 : Int) := by omega
      have i0 : (0 : Int) ≤ (i : Int) := Int.natCast_nonneg _
      have iz : decide ((i : Int) < (n1 : Int)) = true := decide_eq_true i1
      obtain ⟨f, hx⟩ := get_some (unhide HL1) h
      obtain ⟨F, hF⟩ := fl_ex f
      obtain ⟨rfl, hpw, hld⟩ := SlG.load hF ((unhide HU1).bel (unhide HW)) hx
      have LD := hide hld
      have HI := hide hF.info
      have HO := hide hF.one
      have hsz := hF.size
      obtain ⟨hfs, hst⟩ := unhide HS1 i f hx
      have HST := hide hst
      have HK := hide (fun W => key_any f W)
      rw [hF.v] at HK
      obtain ⟨A, hbA, hA⟩ := hF.built1
      have HB := hide hbA
      have HA := hide hA
      have HLF := hide (fun W (h : ab W wr.heap.size 57 F) => hF.load0 h)
      clear hld hx hst hF hbA hA
      go_wp2_with (first | refine wpl_loadAt rfl 57 _ rfl _ rfl _ (unhide LD) ?_ | refine wpl_putNew rfl 57 _ _ rfl wr _ F 57 rfl rfl (unhide HI) (by rw [hsz]; rfl) (unhide HO) ?_)
      have HN := hide (ab_new wr 57 F _ rfl)
      have HMN := hide ((unhide HM).bel (ba (Below.refl _ _) (.cells F 57)))
      have HWN := hide (ba (unhide HW) (.cells F 57))
      have hgs : wr.heap.size < (wr.alloc (.cells F 57)).heap.size := by simp
      generalize wr.alloc (.cells F 57) = V at *
      refine Go.Code.wp_mono (Only.to (fun _ _ h => h)) (p65_5 (x := f) (F := F) (A := A) (g := wr.heap.size) (f := st1 B i) (by unfold maxLen; omega) hfs HMN HN HLF HK HB HA (fun W' hm' hg' => ?_))
      have HM2 := hide hm'
      have HG2 := hide hg'
      clear hm' hg'
      go_wp2_with fail
      go_roundw
      case rel => exact ⟨i + 1, by simp, h, (unhide HM2).congr (unhide HST), Below.grown (unhide HWN) (unhide HG2) (by have := (unhide HWN).size; omega) (fun j hj => by cases hj; exact Nat.le_refl _)⟩
      case measure => simp only [intOf]; omega
    · have i1 : ¬ (i : Int) < (n1 : Int) := by omega
      have iz : decide ((i : Int) < (n1 : Int)) = false := decide_eq_false i1
      have HM2 := hide (((unhide HM).mono hi).congr (fun s => st1_end (by rw [unhide HL1]; omega) L s))
      go_wp2_with fail
      go_loopw [29] (fun s W => ∃ i : Nat, s = .int .i64 (i : Int) ∧ i ≤ n2 ∧ Mp W w.heap.size (n1 + i) (st2 B L i) ∧ Below w.heap.size w W) (fun s _ => n2 - (intOf s).toNat)
      case atStart => exact ⟨0, rfl, Nat.zero_le _, unhide HM2, unhide HW⟩
      case round =>
        obtain ⟨i, rfl, hi, hm, hw⟩ := hrel
        have HM := hide hm
        have HW := hide hw
        have hml := hm.lt
        clear hm hw
        by_cases h : i < n2
        · have i1 : (i : Int) < (n2 : Int) := by omega
          have i0 : (0 : Int) ≤ (i : Int) := Int.natCast_nonneg _
          have iz : decide ((i : Int) < (n2 : Int)) = true := decide_eq_true i1
          obtain ⟨f, hx⟩ := get_some (unhide HL2) h
          obtain ⟨F, hF⟩ := fl_ex f
          obtain ⟨rfl, hpw, hld⟩ := SlG.load hF ((unhide HU2).bel (unhide HW)) hx
          have LD := hide hld
          have HI := hide hF.info
          have HO := hide hF.one
          have hsz := hF.size
          obtain ⟨hfs, hst⟩ := unhide HS2 i f hx
          have HST := hide hst
          have HFS := hide hfs
          have HK := hide (fun W => key_any f W)
          rw [hF.v] at HK
          obtain ⟨P, hP⟩ := bl_ex ((st2 B L i f.nm).getD p0)
          obtain ⟨G, hG⟩ := fl_ex ((st2 B L i f.nm).getD p0).1
          obtain ⟨A, hbA, hA⟩ := hG.built2 hF
          have HB := hide hbA
          have HA := hide hA
          have HLF := hide (fun W (h : ab W wr.heap.size 57 F) => hF.load0 h)
          have hfd := hP.field0 hG
          have HLK := hide (fun W (h : Mp W w.heap.size (n1 + i) (st2 B L i)) => (by have := h.get und60 f.nm (unhide HFS); rw [hP.v] at this; exact this : (Instr.lookup 60 (.map (some w.heap.size)) (.string f.nm) false).run Try.prog W = .ok (.agg P) W))
          clear hld hx hst hF hbA hA hP hG hfs
          have HN := hide (ab_new wr 57 F _ rfl)
          have HMN := hide ((unhide HM).bel (ba (Below.refl _ _) (.cells F 57)))
          have HWN := hide (ba (unhide HW) (.cells F 57))
          go_wp2_with (first | refine wpl_loadAt rfl 57 (.tmp 11) rfl _ rfl _ (unhide HLF _ (unhide HN)) ?_ | refine wpl_loadAt rfl 57 (.tmp 31) rfl _ rfl _ (unhide LD) ?_ | refine wpl_putNew rfl 57 _ _ rfl wr _ F 57 rfl rfl (unhide HI) (by rw [hsz]; rfl) (unhide HO) ?_)
          refine (unhide HK _).mono ?_
          rintro e W1 ⟨rfl, hb1⟩
          have HN1 := hide ((unhide HN).bel hb1)
          have HM1 := hide ((unhide HMN).bel hb1)
          have HW1 := hide (bc (unhide HWN) hb1)
          have hlk := unhide HLK _ (unhide HM1)
          clear hb1
          go_wp2_with (first
            | refine wpl_loadAt rfl 57 (.tmp 11) rfl _ rfl _ (unhide HLF _ (unhide HN1)) ?_
            | refine wpl_build2 rfl 68 0 1 (.tmp 41) (.tmp 42) rfl (.agg G) (.agg F) rfl rfl A (unhide HB) ?_
            | (refine wpl_putA rfl (.tmp 36) (.tmp 37) (.tmp 43) 60 rfl und60 w.heap.size (n1 + i) (st2 B L i) rfl (unhide HM1) (by unfold maxLen; omega) f.nm (((st2 B L i f.nm).getD p0).1, f) A (unhide HA) rfl rfl (unhide HFS) ?_; intro w2 hm2 ht2; have HM2 := hide hm2; have HT2 := hide ht2.grown; clear hm2 ht2))
          go_roundw
          case rel => exact ⟨i + 1, by simp, h, (unhide HM2).congr (unhide HST), Below.grown (unhide HW1) (unhide HT2) (unhide HW1).size (fun j hj => by cases hj; exact Nat.le_refl _)⟩
          case measure => simp only [intOf]; omega
        · have i1 : ¬ (i : Int) < (n2 : Int) := by omega
          have iz : decide ((i : Int) < (n2 : Int)) = false := decide_eq_false i1
          go_wp2_with fail
          go_ret
          exact ⟨rfl, ((unhide HM).mono (by omega)).congr (fun s => st2_end (by rw [unhide HL2]; omega) s), unhide HW⟩
end Go.Proofs.Ytkkmikgeppkhiaa

namespace Go.Proofs.Ytkkmikgeppkhiaa
open Go.ChangeShapes Go.WideShapes Go.ChangeAt Go.RowKit Go.Maps Go.WideMaps
set_option linter.unusedVariables false
set_option linter.unusedSimpArgs false

/-- a list that a call is handed, its names different -/
structure Lst (w : World) (u : Option Addr) (p po n : Nat) (fs : List Ft) : Prop where
  len : fs.length = n
  le : n ≤ 4096
  at_ : SlG ftc 15 w u p po fs
  dif : Dif fs
  size : ∀ f ∈ fs, f.nm.size ≤ maxLen
theorem Lst.bel {w W : World} {u : Option Addr} {p po n : Nat} {fs : List Ft} (h : Lst w u p po n fs) (hb : Below w.heap.size w W) : Lst W u p po n fs := ⟨h.len, h.le, h.at_.bel hb, h.dif, h.size⟩
theorem allb_any (u1 : Option Addr) (p1 o1 n1 c1 : Nat) (B : List Ft) (u2 : Option Addr) (p2 o2 n2 c2 : Nat) (L : List Ft) (w : World) (h1 : Lst w u1 p1 o1 n1 B) (h2 : Lst w u2 p2 o2 n2 L) :
    Calls Try.prog 46 #[.slice u1 n1 c1, .slice u2 n2 c2] w fun e w' => e = .returned (.map (some w.heap.size)) ∧ Mp w' w.heap.size (n1 + n2) (pr B L) ∧ Below w.heap.size w w' := by
  have HB := hide (both_any u1 p1 o1 n1 c1 B u2 p2 o2 n2 c2 L w h1.len h1.le h1.at_ h2.len h2.le h2.at_ h1.dif h2.dif h1.size h2.size)
  clear h1 h2
  go_enter Try.func46, Try.ntmps46
  go_wp2_with fail
  refine (unhide HB).mono ?_
  rintro e W1 ⟨rfl, hm, hb⟩
  have HM := hide hm
  have HW := hide hb
  clear hm hb
  go_wp2_with fail
  go_ret
  exact ⟨rfl, unhide HM, unhide HW⟩
set_option maxRecDepth 100000 in
set_option maxHeartbeats 4000000 in
theorem edits_any (u1 : Option Addr) (p1 o1 n1 c1 : Nat) (B : List Ft) (u2 : Option Addr) (p2 o2 n2 c2 : Nat) (L : List Ft) (w : World) (h1 : Lst w u1 p1 o1 n1 B) (h2 : Lst w u2 p2 o2 n2 L) :
    Calls Try.prog 31 #[.slice u1 n1 c1, .slice u2 n2 c2] w fun e w' => e = .returned (.map (some w.heap.size)) ∧ Mp w' w.heap.size (n1 + n2) (eds B L) ∧ Below w.heap.size w w' := by
  have HB := hide (allb_any u1 p1 o1 n1 c1 B u2 p2 o2 n2 c2 L w h1 h2)
  clear h1 h2
  go_enter Try.func31, Try.ntmps31
  go_wp2_with fail
  refine (unhide HB).mono ?_
  rintro e W1 ⟨rfl, hm, hb⟩
  have HM := hide hm
  have HW := hide hb
  have hmw := hm.lt
  clear hm hb
  go_wp2_with (refine wpl_rangeB _ rfl _ 61 rfl und61 w.heap.size (n1 + n2) (pr B L) rfl (unhide HM) ?_; intro w0 cnt0 hrg0 hg0 hs0)
  have R0 := hide (hrg0 : Rg w0 w.heap.size W1.heap.size (n1 + n2) (pr B L) (fun s => (pr B L s).isSome) cnt0)
  have G0 := hide (bc (unhide HW) (gb_below hg0))
  clear hrg0 hg0
  have hcs : (pr B L) = cut (pr B L) (fun s => (pr B L s).isSome) := funext (cut_start _)
  have HCS := hide hcs
  clear hcs
  go_frame
  go_loopw [6] (fun _ W => ∃ left cnt, Rg W w.heap.size W1.heap.size (n1 + n2) (cut (pr B L) left) left cnt ∧ Below w.heap.size w W) (fun _ W => W.rangeLeft w.heap.size W1.heap.size)
  case atStart => exact ⟨_, _, by have := unhide R0; rw [unhide HCS] at this; have h2 := this; rw [← unhide HCS] at h2; rw [← unhide HCS]; exact h2, unhide G0⟩
  case round =>
    obtain ⟨left, cnt, hrg, hw⟩ := hrel
    have HR := hide hrg
    have HW := hide hw
    clear hrg hw
    go_wp2_with (first
      | (at_next; refine wpl_nextB _ rfl _ rfl w.heap.size W1.heap.size (n1 + n2) _ left cnt rfl (unhide HR) ?_ ?_)
      | go_in)
    · intro hl0
      have HL0 := hide hl0
      clear hl0
      go_wp2_with fail
      go_ret
      exact ⟨rfl, (unhide HR).map.congr (cut_end (unhide HL0)), unhide HW⟩
    · intro s p1_ p2_ w1 cnt1 hs hls hf hrg1 hlt hg1 hs1 hen
      have hmn := (unhide HR).map.lt
      have HR1 := hide hrg1
      have HW1 := hide (Below.grown (unhide HW) hg1 (unhide HW).size (fun j hj => by cases hj; omega))
      have HSA := hide (fun e t => cut_same hf e t)
      have HSB := hide (fun e t => cut_other hf e t)
      have HLT := hide hlt
      obtain ⟨A, hA⟩ := bl_ex (p1_, p2_)
      rw [hA.v] at hen
      have HI := hide hA.info
      have HO := hide hA.one
      have hsz := hA.size
      have HLA := hide (fun W (h : ab W w1.heap.size 68 A) => hA.load h)
      have HSM := hide (fun W => same_any (p1_, p2_) W)
      rw [hA.v] at HSM
      have HN := hide (ab_new w1 68 A _ rfl)
      have HR2 := hide ((unhide HR1).bel (ba (Below.refl _ _) (.cells A 68)))
      have HW2 := hide (ba (unhide HW1) (.cells A 68))
      have hll : (left s && !sEq s s) = false := by rw [sEq_refl]; simp
      have HLL := hide hll
      clear hrg1 hg1 hls hf hA hlt hll hs1
      go_wp2_with (first | refine wpl_putNew rfl 68 _ _ rfl w1 _ A 68 rfl rfl (unhide HI) (by rw [hsz]; rfl) (unhide HO) ?_ | refine wpl_loadAt rfl 68 (.tmp 7) rfl _ rfl _ (unhide HLA _ (unhide HN)) ?_)
      refine (unhide HSM _).mono ?_
      rintro e W2 ⟨rfl, hb2⟩
      have HR3 := hide ((unhide HR2).bel hb2)
      have HW3 := hide (bc (unhide HW2) hb2)
      clear hb2
      cases hq : fE p1_ p2_
      · have HST := hide (unhide HSB hq)
        clear hq
        go_wp2_with fail
        go_roundw
        case rel => exact ⟨_, cnt1, by have := unhide HR3; rw [show cut (pr B L) left = cut (pr B L) (fun t => left t && !sEq s t) from funext (unhide HST)] at this; exact this, unhide HW3⟩
        case measure => rw [(unhide HR3).left_eq, (unhide HR).left_eq]; exact unhide HLT
      · have HST := hide (unhide HSA hq)
        clear hq
        go_wp2_with (refine wpl_delB _ rfl _ _ 61 rfl und61 w.heap.size W1.heap.size (n1 + n2) _ _ cnt1 rfl (unhide HR3) s rfl hs (unhide HLL) ?_; intro w2 cnt2 hr2 hle2 ht2)
        have HR4 := hide hr2
        have HW4 := hide (Below.grown (unhide HW3) ht2.grown (unhide HW3).size (fun j hj => by cases hj; exact Nat.le_refl _))
        have HLE := hide hle2
        clear hr2 ht2 hle2
        try go_frame
        go_roundw
        case rel => exact ⟨_, cnt2, by have := unhide HR4; rw [show dn (cut (pr B L) left) s = cut (pr B L) (fun t => left t && !sEq s t) from funext (unhide HST)] at this; exact this, unhide HW4⟩
        case measure => rw [(unhide HR4).left_eq, (unhide HR).left_eq]; have := unhide HLE; have := unhide HLT; omega
end Go.Proofs.Ytkkmikgeppkhiaa
