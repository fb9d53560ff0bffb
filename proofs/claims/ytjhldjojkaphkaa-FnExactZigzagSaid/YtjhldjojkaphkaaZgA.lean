/-
  The model's Zigzag as a run over candidates: its places are those of the program. What the model's run of Zigzag has in memory; an append whose block is the old one or a new one. A statement of the model's stand, walked alone: four moves are appended. The model's floor. The model's stand: the tool stands at a place, if it would take something. A statement of the model's Zigzag, walked alone: its run is made. The model's candidates, one behind the other. The model's levels. By how much one field is above another: both sides. Whether a stock and a part go together: both sides. Whether a stock and a part go together: both sides. The model's Zigzag at right arguments. The model's Zigzag at wrong arguments. Rows of moves, and what the law asks of them: that two are the same, that one is written over, that it is held. What the law asks of rows of moves: that two are the same, that one is written over, that it is held. Two statements of the law of Zigzag, walked alone: arguments are made, and the moves.
-/
import Derived.Test.YtjhldjojkaphkaaZgX
import Derived.Test.YtjhldjojkaphkaaZgM
import Derived.Test.YtjhldjojkaphkaaAppNew
import Derived.Test.YtjhldjojkaphkaaLow
import Derived.Test.YtjhldjojkaphkaaInv
import Derived.Lib.MinMax
import Derived.BigRegion
import Derived.Test.YtjhldjojkaphkaaFdRows
import Derived.Test.YtjhldjojkaphkaaStq
import Derived.Test.YtjhldjojkaphkaaFdOk
import Derived.Test.YtjhldjojkaphkaaByt
import Derived.Test.YtjhldjojkaphkaaMkRows
import Derived.Test.YtjhldjojkaphkaaInv2
namespace Go.Proofs.Ytjhldjojkaphkaa
set_option linter.unusedVariables false
set_option linter.unusedSimpArgs false

/-- what the model's run has: the tops that are left, and the places in their order -/
structure Zs where
  T : List Int
  ps : List (Nat × Nat × Int)
def zst (W H r : Nat) (s : Zs) (p : Nat × Nat × Int) : Zs :=
  if hi s.T (cols W H r p.1 p.2.1) ≤ p.2.2 then s else if 2000 < 1 + 4 * s.ps.length then s else ⟨mins s.T (cols W H r p.1 p.2.1) p.2.2, s.ps ++ [p]⟩
def zstO (W H r : Nat) (s : Zs) : Option (Nat × Nat × Int) → Zs
  | none => s
  | some p => zst W H r s p
/-- behind the first c candidates -/
def zrun (W H r s : Nat) (A L : List Int) : Nat → Zs
  | 0 => ⟨A, []⟩
  | c + 1 => zstO W H r (zrun W H r s A L c) (cnd W H s L c)
theorem take1_T (z : Int) (s : Ml) (i : Nat) : (take1 z s i).T = s.T.set i (min (tp s.T i) z) := by
  unfold take1
  split
  · rename_i h
    show s.T.set i z = _
    rw [Int.min_eq_right (by omega)]
  · rename_i h
    rw [Int.min_eq_left (by omega)]
    by_cases hi : i < s.T.length
    · have := tp_at hi
      apply List.ext_getElem?
      intro j
      rw [List.getElem?_set]
      split
      · rename_i e
        subst e
        exact this
      · rfl
    · rw [List.set_eq_of_length_le (by omega)]
theorem takeC_T (z : Int) : ∀ (cs : List Nat) (s : Ml), (takeC z s cs).T = mins s.T cs z
  | [], s => rfl
  | c :: cs, s => by
    show (takeC z (take1 z s c) cs).T = _
    rw [takeC_T z cs (take1 z s c), take1_T]
    rfl
theorem zrun_fold (W H r s : Nat) (A L : List Int) : ∀ c, zrun W H r s A L c = (lsq (cnd W H s L) c).foldl (zst W H r) ⟨A, []⟩
  | 0 => rfl
  | c + 1 => by
    rw [zrun, zrun_fold W H r s A L c]
    unfold lsq
    rw [List.range_succ, List.filterMap_append, List.foldl_append]
    cases h : cnd W H s L c <;> simp [h, zstO]
theorem lsq_succ_none {α : Type} {f : Nat → Option α} {c : Nat} (h : f c = none) : lsq f (c + 1) = lsq f c := by unfold lsq; rw [List.range_succ, List.filterMap_append]; simp [h]
theorem lsq_succ_some {α : Type} {f : Nat → Option α} {c : Nat} {p : α} (h : f c = some p) : lsq f (c + 1) = lsq f c ++ [p] := by unfold lsq; rw [List.range_succ, List.filterMap_append]; simp [h]
theorem zst_run (W H r : Nat) (A : List Int) (ps : List (Nat × Nat × Int)) : ∀ c, c ≤ ps.length →
    (((ps.take c).foldl (zst W H r) ⟨A, []⟩).ps = lsq (tkd W H r ⟨A, 0, 0, 0⟩ ps) c ∧ ((ps.take c).foldl (zst W H r) ⟨A, []⟩).T = (lfS W H r ⟨A, 0, 0, 0⟩ ps c).T) ∨
    (2000 < 1 + 4 * ((ps.take c).foldl (zst W H r) ⟨A, []⟩).ps.length ∧ ((ps.take c).foldl (zst W H r) ⟨A, []⟩).ps.length ≤ (lsq (tkd W H r ⟨A, 0, 0, 0⟩ ps) c).length)
  | 0, _ => .inl ⟨rfl, rfl⟩
  | c + 1, hc => by
    have hp : ps[c]? = some ps[c] := List.getElem?_eq_getElem (by omega)
    have hs : (ps.take (c + 1)).foldl (zst W H r) ⟨A, []⟩ = zst W H r ((ps.take c).foldl (zst W H r) ⟨A, []⟩) ps[c] := by
      rw [List.take_add_one, hp, List.foldl_append]
      rfl
    have hle : (lsq (tkd W H r ⟨A, 0, 0, 0⟩ ps) c).length ≤ (lsq (tkd W H r ⟨A, 0, 0, 0⟩ ps) (c + 1)).length := by
      cases h : tkd W H r ⟨A, 0, 0, 0⟩ ps c with
      | none => rw [lsq_succ_none h]; exact Nat.le_refl _
      | some p => rw [lsq_succ_some h]; simp
    have ih := zst_run W H r A ps c (by omega)
    rw [hs]
    generalize (ps.take c).foldl (zst W H r) ⟨A, []⟩ = st at *
    generalize ps[c] = p at *
    rcases ih with ⟨h1, h2⟩ | ⟨h1, h2⟩
    · by_cases hb : tkb W H r (lfS W H r ⟨A, 0, 0, 0⟩ ps c) p = true
      · obtain ⟨e1, e2⟩ := tkd_yes hp hb
        have hb' : ¬ hi st.T (cols W H r p.1 p.2.1) ≤ p.2.2 := by
          unfold tkb at hb
          rw [h2]
          simpa using hb
        unfold zst
        rw [if_neg hb']
        by_cases ho : 2000 < 1 + 4 * st.ps.length
        · rw [if_pos ho]
          exact .inr ⟨ho, by rw [h1]; exact hle⟩
        · rw [if_neg ho]
          left
          refine ⟨?_, ?_⟩
          · show st.ps ++ [p] = _
            rw [lsq_succ_some e1, h1]
          · show mins _ _ _ = _
            rw [e2, takeC_T, h2]
      · have hb2 : tkb W H r (lfS W H r ⟨A, 0, 0, 0⟩ ps c) p = false := Bool.eq_false_iff.2 hb
        obtain ⟨e1, e2⟩ := tkd_no hp hb2
        have hb' : hi st.T (cols W H r p.1 p.2.1) ≤ p.2.2 := by
          unfold tkb at hb2
          rw [h2]
          simpa using hb2
        unfold zst
        rw [if_pos hb']
        exact .inl ⟨by rw [lsq_succ_none e1]; exact h1, by rw [e2]; exact h2⟩
    · have : zst W H r st p = st := by
        unfold zst
        by_cases h9 : hi st.T (cols W H r p.1 p.2.1) ≤ p.2.2
        · rw [if_pos h9]
        · rw [if_neg h9, if_pos h1]
      rw [this]
      exact .inr ⟨h1, Nat.le_trans h2 hle⟩
theorem zrun_end (W H r s : Nat) (A L : List Int) : (1 + 4 * (zzL W H r s A L).length ≤ 2000 ∧ (zrun W H r s A L (cnC W H s)).ps = zzL W H r s A L) ∨ (2000 < 1 + 4 * (zzL W H r s A L).length ∧ 2000 < 1 + 4 * (zrun W H r s A L (cnC W H s)).ps.length) := by
  have h := zst_run W H r A (plcs W H s L) (plcs W H s L).length (Nat.le_refl _)
  rw [List.take_length] at h
  rw [zrun_fold]
  rw [show lsq (cnd W H s L) (cnC W H s) = plcs W H s L from rfl]
  unfold zzL
  generalize (plcs W H s L).foldl (zst W H r) ⟨A, []⟩ = st at *
  rcases h with ⟨h1, _⟩ | ⟨h1, h2⟩
  · by_cases ho : 1 + 4 * (lsq (tkd W H r ⟨A, 0, 0, 0⟩ (plcs W H s L)) (plcs W H s L).length).length ≤ 2000
    · exact .inl ⟨ho, h1⟩
    · exact .inr ⟨by omega, by rw [h1]; omega⟩
  · exact .inr ⟨by omega, h1⟩
theorem zoy_pre (ps qs : List (Nat × Nat × Int)) : ∀ k, k ≤ ps.length → zoy (ps ++ qs) k = zoy ps k
  | 0, _ => rfl
  | k + 1, hk => by
    simp only [zoy]
    rw [List.getD_eq_getElem?_getD, List.getD_eq_getElem?_getD, List.getElem?_append_left (by omega)]
theorem zcs_pre (ps qs : List (Nat × Nat × Int)) : ∀ k, k ≤ ps.length → zcs (ps ++ qs) k = zcs ps k
  | 0, _ => rfl
  | k + 1, hk => by
    simp only [zcs]
    rw [zcs_pre ps qs k (by omega), zoy_pre ps qs k (by omega), List.getD_eq_getElem?_getD, List.getD_eq_getElem?_getD, List.getElem?_append_left (by omega)]
theorem zcs_snoc (ps : List (Nat × Nat × Int)) (x y : Nat) (z : Int) : zcs (ps ++ [(x, y, z)]) (ps ++ [(x, y, z)]).length = zcs ps ps.length ++ mv4 (x : Int) (zoy ps ps.length) (y : Int) z ∧ zoy (ps ++ [(x, y, z)]) (ps ++ [(x, y, z)]).length = (y : Int) := by
  rw [List.length_append]
  show zcs _ (ps.length + 1) = _ ∧ zoy _ (ps.length + 1) = _
  have h : (ps ++ [(x, y, z)])[ps.length]? = some (x, y, z) := by simp
  obtain ⟨h1, h2⟩ := zcs_succ h
  refine ⟨?_, h2⟩
  rw [h1, zcs_pre ps _ _ (Nat.le_refl _), zoy_pre ps _ _ (Nat.le_refl _)]
theorem mins_keep {n : Nat} {T : List Int} {cs : List Nat} {z : Int} (hz : 0 ≤ z) (hl : T.length = n) (hT : ∀ i, 0 ≤ tp T i ∧ tp T i ≤ 24) : (mins T cs z).length = n ∧ ∀ i, 0 ≤ tp (mins T cs z) i ∧ tp (mins T cs z) i ≤ 24 := by
  refine ⟨by rw [mins_len, hl], ?_⟩
  clear hl
  induction cs generalizing T with
  | nil => exact hT
  | cons c cs ih =>
    refine ih (T := T.set c (min (tp T c) z)) ?_
    intro i
    by_cases hc : c < T.length
    · rw [tp_set hc]
      split
      · have := hT c; omega
      · exact hT i
    · rw [List.set_eq_of_length_le (by omega)]; exact hT i
theorem zst_ok {W H r n : Nat} {s : Zs} {p : Nat × Nat × Int} (hz : 0 ≤ p.2.2) (hl : s.T.length = n ∧ ∀ i, 0 ≤ tp s.T i ∧ tp s.T i ≤ 24) : (zst W H r s p).T.length = n ∧ ∀ i, 0 ≤ tp (zst W H r s p).T i ∧ tp (zst W H r s p).T i ≤ 24 := by
  unfold zst
  split
  · exact hl
  · split
    · exact hl
    · exact mins_keep hz hl.1 hl.2
theorem zst_few {W H r : Nat} {s : Zs} {p : Nat × Nat × Int} (h : 1 + 4 * s.ps.length ≤ 2004) : 1 + 4 * (zst W H r s p).ps.length ≤ 2004 := by
  unfold zst
  split
  · exact h
  · split
    · exact h
    · simp; omega
end Go.Proofs.Ytjhldjojkaphkaa

namespace Go.Proofs.Ytjhldjojkaphkaa
open Go.ChangeShapes Go.WideShapes Go.ChangeAt Go.RowKit
set_option linter.unusedVariables false
set_option linter.unusedSimpArgs false

theorem wp_append_new {P : Program} (w : World) {o : Oper} {a : Act} {K : Act → World → Prop} {Q : Exit → Act → World → Prop} (s x : Operand) (t : TypeId)
    (ho : o.op = .call { callee := .builtin .append, args := #[s, x], argTypes := #[t, t] })
    (base : Nat) (e : TypeId) (i : TypeInfo) (z : Value) (size bytes : Nat) (ht : P.underlying t = some (.slice e)) (hi : P.info? e = some i) (hz : i.zero = some z)
    (hsize : i.size = size) (hby : i.bytes = bytes) (hzs : z.cells.size = size) (hsz : 0 < size)
    (v : Value) (n : Nat) (xs : List Value) (hs : a.eval s = v) (hown : w.ownsRow base e size v n xs)
    (ad : Addr) (m c : Nat) (news : List Value) (hx : a.eval x = .slice (some ad) m c) (hl : news.length = m * size) (hnews : ∀ j u, news[j]? = some u → w.cell? (ad.add j) = some u) (h1 : ∀ u ∈ news, u.oneCell' = true)
    (h63 : n + m ≤ maxLen) (hbytes : (n + m) * bytes ≤ 140737488355328) (hbase : base ≤ w.heap.size)
    (h : ∀ v' w', w'.ownsRow base e size v' (n + m) (xs ++ news) → w.grownBy w' v.ownBlock → (v' = .slice none 0 0 ↔ v = .slice none 0 0 ∧ m = 0) → NewBlk w v v' → K (a.put o.dst v') w') : o.wp P a w K Q := by
  obtain ⟨v', w', hr, h2, h3, h4⟩ := run_append_own (P := P) w base t o.type e i z size bytes ht hi hz hsize hby hzs hsz v n xs hown ad m c news hl hnews h1 h63 hbytes hbase
  have h5 := append_new (P := P) w base t o.type e i z size bytes ht hi hz hsize hby hzs hsz v n xs hown ad m c news hl hnews h1 h63 hbytes v' w' hr
  unfold Oper.wp execOp
  simp only [ho, resolve, invoke, builtin, Sem.run_bind, Sem.run_pure, Result.andThen_ok, List.map_toArray, List.map_cons, List.map_nil, hs, hx, hr]
  exact h v' w' h2 h3 h4 h5
/-- behind an append to a row of moves -/
structure Apz (V W : World) (B : Nat) (ov nv : Value) (m : Nat) (cs : List Value) : Prop where
  row : Mvs W B nv m cs
  new : ∀ g, nv.ownBlock = some g → ov.ownBlock = some g ∨ V.heap.size ≤ g
  keep : ∀ b, b < V.heap.size → ov.ownBlock ≠ some b → W.heap[b]? = V.heap[b]?
  bel : Below B V W
theorem Apz.of {V W w1 : World} {B m k : Nat} {ov nv : Value} {cs ns : List Value} (hb : Below V.heap.size V W) (hB : B ≤ V.heap.size) (hr : Mvs W B ov m cs) (hown : w1.ownsRow B 65 4 nv (m + k) (cs ++ ns)) (hg : W.grownBy w1 ov.ownBlock) (hn : NewBlk W ov nv) : Apz V w1 B ov nv (m + k) (cs ++ ns) := by
  refine ⟨hown, fun g h => (hn g h).imp id (fun h => Nat.le_trans hb.size h), fun b h1 h2 => (hg.block b (Nat.lt_of_lt_of_le h1 hb.size) h2.symm).trans (hb.block b h1), ?_⟩
  exact (hb.mono hB).grown hg (Nat.le_trans hB hb.size) (fun j hj => (hr.lt j hj).1)
/-- the model's run: its part and tool, the tops that are left, the row it was in last, its moves -/
structure Zm (X : World) (B gb gt gl n ct W H r pc : Nat) (pu : Option Addr) (s : Zs) : Prop where
  out : ∃ v, vb X gb 77 [.int .i64 (W : Int), .int .i64 (H : Int), .slice pu n pc, .int .i64 (r : Int), .slice (some ⟨gt, 0, none⟩) n ct, .int .i64 (zoy s.ps s.ps.length), v] ∧ Mvs X B v (1 + 4 * s.ps.length) (zcs s.ps s.ps.length) ∧ (∀ g, v.ownBlock = some g → g ≠ gb ∧ g ≠ gt ∧ g ≠ gl)
  tops : Row X B 3 1 (.slice (some ⟨gt, 0, none⟩) n ct) n s.T
theorem Zm.bel {X X' : World} {B gb gt gl n ct W H r pc : Nat} {pu : Option Addr} {s : Zs} (h : Zm X B gb gt gl n ct W H r pc pu s) (hb : Below X.heap.size X X') : Zm X' B gb gt gl n ct W H r pc pu s := by
  obtain ⟨v, h1, h2, h3⟩ := h.out
  exact ⟨⟨v, h1.bel hb, h2.kept (fun g hg => hb.block g (h2.lt g hg).2), h3⟩, h.tops.below hb⟩
theorem any_take (f : Nat → Bool) {cs : List Nat} {i c : Nat} (h : cs[i]? = some c) : (cs.take (i + 1)).any f = ((cs.take i).any f || f c) := by
  rw [List.take_add_one, h]
  simp
theorem any_hi (T : List Int) (cs : List Nat) (z : Int) (hz : 0 ≤ z) : cs.any (fun c => decide (z < tp T c)) = !decide (hi T cs ≤ z) := by
  rw [Bool.eq_iff_iff]
  simp only [List.any_eq_true, decide_eq_true_eq, Bool.not_eq_true', decide_eq_false_iff_not]
  rw [hi_le]
  constructor
  · rintro ⟨c, h1, h2⟩ ⟨_, h3⟩
    have := h3 c h1
    omega
  · intro h
    apply Classical.byContradiction
    intro h2
    exact h ⟨hz, fun i hi => by
      apply Classical.byContradiction
      intro h4
      exact h2 ⟨i, hi, by omega⟩⟩
end Go.Proofs.Ytjhldjojkaphkaa

namespace Go.Proofs.Ytjhldjojkaphkaa
open Go.ChangeShapes Go.WideShapes Go.ChangeAt Go.RowKit
set_option linter.unusedVariables false
set_option linter.unusedSimpArgs false

theorem mv_cells {W : World} {g : Nat} {cs : List Value} (h : vb W g 65 cs) : ∀ (j : Nat) (u : Value), cs[j]? = some u → W.cell? ((⟨g, 0, none⟩ : Addr).add j) = some u := by
  intro j u hj
  rw [add_none, Nat.zero_add]
  exact h.cell hj
theorem Mvs.belo {w w' : World} {B n : Nat} {v : Value} {cs : List Value} (h : Mvs w B v n cs) (hb : Below w.heap.size w w') : Mvs w' B v n cs := h.kept (fun g hg => hb.block g (h.lt g hg).2)
theorem Mvs.slc {w : World} {B n : Nat} {v : Value} {cs : List Value} (h : Mvs w B v n cs) (hn : n ≠ 0) : ∃ g cap, v = .slice (some ⟨g, 0, none⟩) n cap := by
  rcases h.2 with ⟨_, h1⟩ | ⟨g, cap, cur, hv, r⟩
  · exact absurd h1 hn
  · exact ⟨g, cap, hv⟩
noncomputable def reg43 (id : Nat) : Go.Code := match Try.f43.body with | some c => (regOf id c).getD .skip | none => .skip
set_option maxHeartbeats 4000000 in
set_option maxRecDepth 100000 in
theorem st11 {s4 s5 s6 s7 s8 s9 s10 s11 s12 s13 s14 s15 s16 s17 s18 s19 s20 s21 s22 s23 s24 s25 s26 s27 s28 s29 s30 s31 s32 s33 s34 s35 s36 s37 s38 s39 s40 s41 s42 s43 s44 s45 s46 s47 s48 s49 s50 s51 s52 s53 s54 s55 s56 s57 s58 s59 s60 s61 s62 s63 s64 s65 s66 s67 s68 s69 s70 s71 s72 s73 s74 s75 s76 s77 s78 s79 s80 s81 s82 s83 s84 s85 s86 s87 s88 s89 s90 s91 s92 s93 s94 s95 s96 s97 s98 s99 s100 s101 s102 s103 s104 s105 s106 s107 s108 s109 : Value} {gb B m : Nat} {x y z oy : Int} {ov : Value} {cs : List Value} {V : World} {K_ : Act → World → Prop} (hm : m ≤ 2000) (hBV : B ≤ V.heap.size) (hgb : gb < V.heap.size) (hne : ov.ownBlock ≠ some gb) (hfz : V.frozen? ⟨gb, 6, none⟩ = false)
    (H5 : Hid (V.cell? ⟨gb, 5, none⟩ = some (.int .i64 oy))) (H6 : Hid (V.cell? ⟨gb, 6, none⟩ = some ov)) (HR : Hid (Mvs V B ov m cs))
    (hQ : ∀ (sb : Nat) (nv : Value) (W1 : World), Apz V W1 B ov nv (m + 4) (cs ++ mv4 x oy y z) → K_ { tmps := #[.pointer (some ⟨gb, 0, none⟩), .int .i64 (x), .int .i64 (y), .int .i64 (z), s4, s5, s6, s7, s8, s9, s10, s11, s12, s13, s14, s15, s16, s17, s18, s19, s20, s21, s22, s23, s24, s25, s26, s27, s28, s29, s30, s31, s32, s33, s34, s35, s36, s37, s38, s39, s40, s41, s42, s43, s44, s45, s46, s47, s48, s49, s50, s51, s52, s53, s54, s55, s56, s57, s58, s59, s60, s61, s62, s63, s64, s65, s66, s67, s68, s69, s70, s71, s72, s73, s74, s75, s76, s77, s78, s79, s80, .pointer (some ⟨gb, 0, none⟩), .pointer (some ⟨gb, 0, none⟩), .pointer (some ⟨gb, 0, none⟩), .pointer (some ⟨gb, 6, none⟩), ov, .int .i64 (x), .pointer (some ⟨gb, 0, none⟩), .pointer (some ⟨gb, 0, none⟩), .pointer (some ⟨gb, 5, none⟩), .int .i64 (oy), .agg #[.bool true, .int .i64 (x), .int .i64 (oy), .int .i64 (24)], .int .i64 (x), .int .i64 (y), .agg #[.bool true, .int .i64 (x), .int .i64 (y), .int .i64 (24)], .int .i64 (x), .int .i64 (y), .int .i64 (z), .agg #[.bool false, .int .i64 (x), .int .i64 (y), .int .i64 (z)], .int .i64 (x), .int .i64 (y), .agg #[.bool true, .int .i64 (x), .int .i64 (y), .int .i64 (24)], .slice (some ⟨sb, 0, none⟩) 4 4, nv, .pointer (some ⟨gb, 0, none⟩), .pointer (some ⟨gb, 6, none⟩), s106, s107, s108, s109], defers := [] } (W1.setCell ⟨gb, 6, none⟩ nv)) :
    Go.Code.wp Try.prog (reg43 11) (Only K_) { tmps := #[.pointer (some ⟨gb, 0, none⟩), .int .i64 (x), .int .i64 (y), .int .i64 (z), s4, s5, s6, s7, s8, s9, s10, s11, s12, s13, s14, s15, s16, s17, s18, s19, s20, s21, s22, s23, s24, s25, s26, s27, s28, s29, s30, s31, s32, s33, s34, s35, s36, s37, s38, s39, s40, s41, s42, s43, s44, s45, s46, s47, s48, s49, s50, s51, s52, s53, s54, s55, s56, s57, s58, s59, s60, s61, s62, s63, s64, s65, s66, s67, s68, s69, s70, s71, s72, s73, s74, s75, s76, s77, s78, s79, s80, s81, s82, s83, s84, s85, s86, s87, s88, s89, s90, s91, s92, s93, s94, s95, s96, s97, s98, s99, s100, s101, s102, s103, s104, s105, s106, s107, s108, s109], defers := [] } V := by
  have HQ := hide hQ
  clear hQ
  obtain ⟨iP, hi1, hy0, hy1, hy2⟩ := info_parts mv65
  conv => arg 2; whnf
  refine wp_region_inv (fun Lb A W => ∃ (u0 u1 u2 u3 u4 u5 u6 u7 u8 u9 u10 u11 u12 u13 u14 u15 u16 u17 u18 u19 u20 u21 u22 u23 u24 u25 : Bool) (sb : Nat) (nv : Value), Lb = #[u0, u1, u2, u3, u4, u5, u6, u7, u8, u9, u10, u11, u12, u13, u14, u15, u16, u17, u18, u19, u20, u21, u22, u23, u24, u25] ∧ A = ({ tmps := #[.pointer (some ⟨gb, 0, none⟩), .int .i64 (x), .int .i64 (y), .int .i64 (z), s4, s5, s6, s7, s8, s9, s10, s11, s12, s13, s14, s15, s16, s17, s18, s19, s20, s21, s22, s23, s24, s25, s26, s27, s28, s29, s30, s31, s32, s33, s34, s35, s36, s37, s38, s39, s40, s41, s42, s43, s44, s45, s46, s47, s48, s49, s50, s51, s52, s53, s54, s55, s56, s57, s58, s59, s60, s61, s62, s63, s64, s65, s66, s67, s68, s69, s70, s71, s72, s73, s74, s75, s76, s77, s78, s79, s80, (bif u0 then .pointer (some ⟨gb, 0, none⟩) else s81), (bif u1 then .pointer (some ⟨gb, 0, none⟩) else s82), (bif u2 then .pointer (some ⟨gb, 0, none⟩) else s83), (bif u3 then .pointer (some ⟨gb, 6, none⟩) else s84), (bif u4 then ov else s85), (bif u5 then .int .i64 (x) else s86), (bif u6 then .pointer (some ⟨gb, 0, none⟩) else s87), (bif u7 then .pointer (some ⟨gb, 0, none⟩) else s88), (bif u8 then .pointer (some ⟨gb, 5, none⟩) else s89), (bif u9 then .int .i64 (oy) else s90), (bif u10 then .agg #[.bool true, .int .i64 (x), .int .i64 (oy), .int .i64 (24)] else s91), (bif u11 then .int .i64 (x) else s92), (bif u12 then .int .i64 (y) else s93), (bif u13 then .agg #[.bool true, .int .i64 (x), .int .i64 (y), .int .i64 (24)] else s94), (bif u14 then .int .i64 (x) else s95), (bif u15 then .int .i64 (y) else s96), (bif u16 then .int .i64 (z) else s97), (bif u17 then .agg #[.bool false, .int .i64 (x), .int .i64 (y), .int .i64 (z)] else s98), (bif u18 then .int .i64 (x) else s99), (bif u19 then .int .i64 (y) else s100), (bif u20 then .agg #[.bool true, .int .i64 (x), .int .i64 (y), .int .i64 (24)] else s101), (bif u21 then .slice (some ⟨sb, 0, none⟩) 4 4 else s102), (bif u22 then nv else s103), (bif u23 then .pointer (some ⟨gb, 0, none⟩) else s104), (bif u24 then .pointer (some ⟨gb, 6, none⟩) else s105), s106, s107, s108, s109], defers := [] } : Act) ∧ (u22 = false → Below V.heap.size V W) ∧ (u21 = true → u22 = false → V.heap.size ≤ sb ∧ vb W sb 65 (mv4 x oy y z)) ∧ (u22 = true → u25 = false → Apz V W B ov nv (m + 4) (cs ++ mv4 x oy y z)) ∧ (u25 = true → ∃ W1, Apz V W1 B ov nv (m + 4) (cs ++ mv4 x oy y z) ∧ W = W1.setCell ⟨gb, 6, none⟩ nv) ∧ (u2 = true → u1 = true) ∧ (u3 = true → u2 = true) ∧ (u4 = true → u3 = true) ∧ (u7 = true → u6 = true) ∧ (u8 = true → u7 = true) ∧ (u9 = true → u8 = true) ∧ (u10 = true → u5 = true ∧ u9 = true) ∧ (u13 = true → u11 = true ∧ u12 = true) ∧ (u17 = true → u14 = true ∧ u15 = true ∧ u16 = true) ∧ (u20 = true → u18 = true ∧ u19 = true) ∧ (u21 = true → u10 = true ∧ u13 = true ∧ u17 = true ∧ u20 = true) ∧ (u22 = true → u4 = true ∧ u21 = true) ∧ (u23 = true → u0 = true) ∧ (u24 = true → u23 = true) ∧ (u25 = true → u0 = true ∧ u1 = true ∧ u2 = true ∧ u3 = true ∧ u4 = true ∧ u5 = true ∧ u6 = true ∧ u7 = true ∧ u8 = true ∧ u9 = true ∧ u10 = true ∧ u11 = true ∧ u12 = true ∧ u13 = true ∧ u14 = true ∧ u15 = true ∧ u16 = true ∧ u17 = true ∧ u18 = true ∧ u19 = true ∧ u20 = true ∧ u21 = true ∧ u22 = true ∧ u23 = true ∧ u24 = true)) (by kernel_rfl) (by kernel_rfl) ?h0 ?hstep ?hend
  case h0 =>
    exact ⟨false, false, false, false, false, false, false, false, false, false, false, false, false, false, false, false, false, false, false, false, false, false, false, false, false, false, 0, undef, rfl, rfl, (fun _ => Below.drew (Below.refl _ _)), (fun h => nomatch h), (fun h => nomatch h), (fun h => nomatch h), (fun h => nomatch h), (fun h => nomatch h), (fun h => nomatch h), (fun h => nomatch h), (fun h => nomatch h), (fun h => nomatch h), (fun h => nomatch h), (fun h => nomatch h), (fun h => nomatch h), (fun h => nomatch h), (fun h => nomatch h), (fun h => nomatch h), (fun h => nomatch h), (fun h => nomatch h), (fun h => nomatch h)⟩
  case hstep =>
    rintro Lb A W ⟨u0, u1, u2, u3, u4, u5, u6, u7, u8, u9, u10, u11, u12, u13, u14, u15, u16, u17, u18, u19, u20, u21, u22, u23, u24, u25, sb, nv, rfl, rfl, kB, kN, kR, kZ, c2, c3, c4, c7, c8, c9, c10, c13, c17, c20, c21, c22, c23, c24, kF⟩
    refine ⟨?_, ?_, ?_, ?_, ?_, ?_, ?_, ?_, ?_, ?_, ?_, ?_, ?_, ?_, ?_, ?_, ?_, ?_, ?_, ?_, ?_, ?_, ?_, ?_, ?_, ?_, trivial⟩
    · intro h0 hd K hK
      have z : u0 = false := h0
      have z25_ : u25 = false := by
        cases hu : u25 with
        | false => rfl
        | true => exact nomatch z.symm.trans ((kF hu).1)
      have H_kB := hide kB
      have H_kN := hide kN
      have H_kR := hide kR
      have H_kZ := hide kZ
      have H_c2 := hide c2
      have H_c3 := hide c3
      have H_c4 := hide c4
      have H_c7 := hide c7
      have H_c8 := hide c8
      have H_c9 := hide c9
      have H_c10 := hide c10
      have H_c13 := hide c13
      have H_c17 := hide c17
      have H_c20 := hide c20
      have H_c21 := hide c21
      have H_c22 := hide c22
      have H_c23 := hide c23
      have H_c24 := hide c24
      have H_kF := hide kF
      clear kB kN kR kZ c2 c3 c4 c7 c8 c9 c10 c13 c17 c20 c21 c22 c23 c24 kF
      subst z25_
      subst z
      clear h0 hd
      rw [if_pos (by rfl)]
      go_simp
      exact unhide hK _ _ ⟨true, u1, u2, u3, u4, u5, u6, u7, u8, u9, u10, u11, u12, u13, u14, u15, u16, u17, u18, u19, u20, u21, u22, u23, u24, false, sb, nv, rfl, rfl, unhide H_kB, unhide H_kN, unhide H_kR, (fun h => nomatch h), unhide H_c2, unhide H_c3, unhide H_c4, unhide H_c7, unhide H_c8, unhide H_c9, unhide H_c10, unhide H_c13, unhide H_c17, unhide H_c20, unhide H_c21, unhide H_c22, (fun h => rfl), unhide H_c24, (fun h => nomatch h)⟩
    · intro h0 hd K hK
      have z : u1 = false := h0
      have z25_ : u25 = false := by
        cases hu : u25 with
        | false => rfl
        | true => exact nomatch z.symm.trans ((kF hu).2.1)
      have H_kB := hide kB
      have H_kN := hide kN
      have H_kR := hide kR
      have H_kZ := hide kZ
      have H_c2 := hide c2
      have H_c3 := hide c3
      have H_c4 := hide c4
      have H_c7 := hide c7
      have H_c8 := hide c8
      have H_c9 := hide c9
      have H_c10 := hide c10
      have H_c13 := hide c13
      have H_c17 := hide c17
      have H_c20 := hide c20
      have H_c21 := hide c21
      have H_c22 := hide c22
      have H_c23 := hide c23
      have H_c24 := hide c24
      have H_kF := hide kF
      clear kB kN kR kZ c2 c3 c4 c7 c8 c9 c10 c13 c17 c20 c21 c22 c23 c24 kF
      subst z25_
      subst z
      clear h0 hd
      rw [if_pos (by rfl)]
      go_simp
      exact unhide hK _ _ ⟨u0, true, u2, u3, u4, u5, u6, u7, u8, u9, u10, u11, u12, u13, u14, u15, u16, u17, u18, u19, u20, u21, u22, u23, u24, false, sb, nv, rfl, rfl, unhide H_kB, unhide H_kN, unhide H_kR, (fun h => nomatch h), (fun h => rfl), unhide H_c3, unhide H_c4, unhide H_c7, unhide H_c8, unhide H_c9, unhide H_c10, unhide H_c13, unhide H_c17, unhide H_c20, unhide H_c21, unhide H_c22, unhide H_c23, unhide H_c24, (fun h => nomatch h)⟩
    · intro h0 hd K hK
      have z : u2 = false := h0
      have z25_ : u25 = false := by
        cases hu : u25 with
        | false => rfl
        | true => exact nomatch z.symm.trans ((kF hu).2.2.1)
      have zd : u1 = true := by
        simp [Region.binds] at hd
        simp [hd]
      have H_kB := hide kB
      have H_kN := hide kN
      have H_kR := hide kR
      have H_kZ := hide kZ
      have H_c2 := hide c2
      have H_c3 := hide c3
      have H_c4 := hide c4
      have H_c7 := hide c7
      have H_c8 := hide c8
      have H_c9 := hide c9
      have H_c10 := hide c10
      have H_c13 := hide c13
      have H_c17 := hide c17
      have H_c20 := hide c20
      have H_c21 := hide c21
      have H_c22 := hide c22
      have H_c23 := hide c23
      have H_c24 := hide c24
      have H_kF := hide kF
      clear kB kN kR kZ c2 c3 c4 c7 c8 c9 c10 c13 c17 c20 c21 c22 c23 c24 kF
      obtain ⟨rfl⟩ := zd
      subst z25_
      subst z
      clear h0 hd
      rw [if_pos (by rfl)]
      go_simp
      exact unhide hK _ _ ⟨u0, true, true, u3, u4, u5, u6, u7, u8, u9, u10, u11, u12, u13, u14, u15, u16, u17, u18, u19, u20, u21, u22, u23, u24, false, sb, nv, rfl, rfl, unhide H_kB, unhide H_kN, unhide H_kR, (fun h => nomatch h), (fun _ => rfl), (fun h => rfl), unhide H_c4, unhide H_c7, unhide H_c8, unhide H_c9, unhide H_c10, unhide H_c13, unhide H_c17, unhide H_c20, unhide H_c21, unhide H_c22, unhide H_c23, unhide H_c24, (fun h => nomatch h)⟩
    · intro h0 hd K hK
      have z : u3 = false := h0
      have z25_ : u25 = false := by
        cases hu : u25 with
        | false => rfl
        | true => exact nomatch z.symm.trans ((kF hu).2.2.2.1)
      have zd : u2 = true := by
        simp [Region.binds] at hd
        simp [hd]
      have H_kB := hide kB
      have H_kN := hide kN
      have H_kR := hide kR
      have H_kZ := hide kZ
      have H_c2 := hide c2
      have H_c3 := hide c3
      have H_c4 := hide c4
      have H_c7 := hide c7
      have H_c8 := hide c8
      have H_c9 := hide c9
      have H_c10 := hide c10
      have H_c13 := hide c13
      have H_c17 := hide c17
      have H_c20 := hide c20
      have H_c21 := hide c21
      have H_c22 := hide c22
      have H_c23 := hide c23
      have H_c24 := hide c24
      have H_kF := hide kF
      clear kB kN kR kZ c2 c3 c4 c7 c8 c9 c10 c13 c17 c20 c21 c22 c23 c24 kF
      obtain ⟨rfl⟩ := zd
      subst z25_
      subst z
      clear h0 hd
      rw [if_pos (by rfl)]
      go_simp
      exact unhide hK _ _ ⟨u0, u1, true, true, u4, u5, u6, u7, u8, u9, u10, u11, u12, u13, u14, u15, u16, u17, u18, u19, u20, u21, u22, u23, u24, false, sb, nv, rfl, rfl, unhide H_kB, unhide H_kN, unhide H_kR, (fun h => nomatch h), unhide H_c2, (fun _ => rfl), (fun h => rfl), unhide H_c7, unhide H_c8, unhide H_c9, unhide H_c10, unhide H_c13, unhide H_c17, unhide H_c20, unhide H_c21, unhide H_c22, unhide H_c23, unhide H_c24, (fun h => nomatch h)⟩
    · intro h0 hd K hK
      have z : u4 = false := h0
      have z25_ : u25 = false := by
        cases hu : u25 with
        | false => rfl
        | true => exact nomatch z.symm.trans ((kF hu).2.2.2.2.1)
      have z22_ : u22 = false := by
        cases hu : u22 with
        | false => rfl
        | true => exact nomatch z.symm.trans ((c22 hu).1)
      have zd : u3 = true := by
        simp [Region.binds] at hd
        simp [hd]
      have H_kB := hide kB
      have H_kN := hide kN
      have H_kR := hide kR
      have H_kZ := hide kZ
      have H_c2 := hide c2
      have H_c3 := hide c3
      have H_c4 := hide c4
      have H_c7 := hide c7
      have H_c8 := hide c8
      have H_c9 := hide c9
      have H_c10 := hide c10
      have H_c13 := hide c13
      have H_c17 := hide c17
      have H_c20 := hide c20
      have H_c21 := hide c21
      have H_c22 := hide c22
      have H_c23 := hide c23
      have H_c24 := hide c24
      have H_kF := hide kF
      clear kB kN kR kZ c2 c3 c4 c7 c8 c9 c10 c13 c17 c20 c21 c22 c23 c24 kF
      obtain ⟨rfl⟩ := zd
      subst z25_
      subst z22_
      subst z
      clear h0 hd
      rw [if_pos (by rfl)]
      have hB := unhide H_kB rfl
      have cc := keep1 hB (unhide H6)
      clear hB
      go_simp
      exact unhide hK _ _ ⟨u0, u1, u2, true, true, u5, u6, u7, u8, u9, u10, u11, u12, u13, u14, u15, u16, u17, u18, u19, u20, u21, false, u23, u24, false, sb, nv, rfl, rfl, (fun _ => (unhide H_kB) rfl), unhide H_kN, (fun h => nomatch h), (fun h => nomatch h), unhide H_c2, unhide H_c3, (fun _ => rfl), unhide H_c7, unhide H_c8, unhide H_c9, unhide H_c10, unhide H_c13, unhide H_c17, unhide H_c20, unhide H_c21, (fun h => nomatch h), unhide H_c23, unhide H_c24, (fun h => nomatch h)⟩
    · intro h0 hd K hK
      have z : u5 = false := h0
      have z25_ : u25 = false := by
        cases hu : u25 with
        | false => rfl
        | true => exact nomatch z.symm.trans ((kF hu).2.2.2.2.2.1)
      have H_kB := hide kB
      have H_kN := hide kN
      have H_kR := hide kR
      have H_kZ := hide kZ
      have H_c2 := hide c2
      have H_c3 := hide c3
      have H_c4 := hide c4
      have H_c7 := hide c7
      have H_c8 := hide c8
      have H_c9 := hide c9
      have H_c10 := hide c10
      have H_c13 := hide c13
      have H_c17 := hide c17
      have H_c20 := hide c20
      have H_c21 := hide c21
      have H_c22 := hide c22
      have H_c23 := hide c23
      have H_c24 := hide c24
      have H_kF := hide kF
      clear kB kN kR kZ c2 c3 c4 c7 c8 c9 c10 c13 c17 c20 c21 c22 c23 c24 kF
      subst z25_
      subst z
      clear h0 hd
      rw [if_pos (by rfl)]
      go_simp
      exact unhide hK _ _ ⟨u0, u1, u2, u3, u4, true, u6, u7, u8, u9, u10, u11, u12, u13, u14, u15, u16, u17, u18, u19, u20, u21, u22, u23, u24, false, sb, nv, rfl, rfl, unhide H_kB, unhide H_kN, unhide H_kR, (fun h => nomatch h), unhide H_c2, unhide H_c3, unhide H_c4, unhide H_c7, unhide H_c8, unhide H_c9, (fun h => ⟨rfl, (unhide H_c10 h).2⟩), unhide H_c13, unhide H_c17, unhide H_c20, unhide H_c21, unhide H_c22, unhide H_c23, unhide H_c24, (fun h => nomatch h)⟩
    · intro h0 hd K hK
      have z : u6 = false := h0
      have z25_ : u25 = false := by
        cases hu : u25 with
        | false => rfl
        | true => exact nomatch z.symm.trans ((kF hu).2.2.2.2.2.2.1)
      have H_kB := hide kB
      have H_kN := hide kN
      have H_kR := hide kR
      have H_kZ := hide kZ
      have H_c2 := hide c2
      have H_c3 := hide c3
      have H_c4 := hide c4
      have H_c7 := hide c7
      have H_c8 := hide c8
      have H_c9 := hide c9
      have H_c10 := hide c10
      have H_c13 := hide c13
      have H_c17 := hide c17
      have H_c20 := hide c20
      have H_c21 := hide c21
      have H_c22 := hide c22
      have H_c23 := hide c23
      have H_c24 := hide c24
      have H_kF := hide kF
      clear kB kN kR kZ c2 c3 c4 c7 c8 c9 c10 c13 c17 c20 c21 c22 c23 c24 kF
      subst z25_
      subst z
      clear h0 hd
      rw [if_pos (by rfl)]
      go_simp
      exact unhide hK _ _ ⟨u0, u1, u2, u3, u4, u5, true, u7, u8, u9, u10, u11, u12, u13, u14, u15, u16, u17, u18, u19, u20, u21, u22, u23, u24, false, sb, nv, rfl, rfl, unhide H_kB, unhide H_kN, unhide H_kR, (fun h => nomatch h), unhide H_c2, unhide H_c3, unhide H_c4, (fun h => rfl), unhide H_c8, unhide H_c9, unhide H_c10, unhide H_c13, unhide H_c17, unhide H_c20, unhide H_c21, unhide H_c22, unhide H_c23, unhide H_c24, (fun h => nomatch h)⟩
    · intro h0 hd K hK
      have z : u7 = false := h0
      have z25_ : u25 = false := by
        cases hu : u25 with
        | false => rfl
        | true => exact nomatch z.symm.trans ((kF hu).2.2.2.2.2.2.2.1)
      have zd : u6 = true := by
        simp [Region.binds] at hd
        simp [hd]
      have H_kB := hide kB
      have H_kN := hide kN
      have H_kR := hide kR
      have H_kZ := hide kZ
      have H_c2 := hide c2
      have H_c3 := hide c3
      have H_c4 := hide c4
      have H_c7 := hide c7
      have H_c8 := hide c8
      have H_c9 := hide c9
      have H_c10 := hide c10
      have H_c13 := hide c13
      have H_c17 := hide c17
      have H_c20 := hide c20
      have H_c21 := hide c21
      have H_c22 := hide c22
      have H_c23 := hide c23
      have H_c24 := hide c24
      have H_kF := hide kF
      clear kB kN kR kZ c2 c3 c4 c7 c8 c9 c10 c13 c17 c20 c21 c22 c23 c24 kF
      obtain ⟨rfl⟩ := zd
      subst z25_
      subst z
      clear h0 hd
      rw [if_pos (by rfl)]
      go_simp
      exact unhide hK _ _ ⟨u0, u1, u2, u3, u4, u5, true, true, u8, u9, u10, u11, u12, u13, u14, u15, u16, u17, u18, u19, u20, u21, u22, u23, u24, false, sb, nv, rfl, rfl, unhide H_kB, unhide H_kN, unhide H_kR, (fun h => nomatch h), unhide H_c2, unhide H_c3, unhide H_c4, (fun _ => rfl), (fun h => rfl), unhide H_c9, unhide H_c10, unhide H_c13, unhide H_c17, unhide H_c20, unhide H_c21, unhide H_c22, unhide H_c23, unhide H_c24, (fun h => nomatch h)⟩
    · intro h0 hd K hK
      have z : u8 = false := h0
      have z25_ : u25 = false := by
        cases hu : u25 with
        | false => rfl
        | true => exact nomatch z.symm.trans ((kF hu).2.2.2.2.2.2.2.2.1)
      have zd : u7 = true := by
        simp [Region.binds] at hd
        simp [hd]
      have H_kB := hide kB
      have H_kN := hide kN
      have H_kR := hide kR
      have H_kZ := hide kZ
      have H_c2 := hide c2
      have H_c3 := hide c3
      have H_c4 := hide c4
      have H_c7 := hide c7
      have H_c8 := hide c8
      have H_c9 := hide c9
      have H_c10 := hide c10
      have H_c13 := hide c13
      have H_c17 := hide c17
      have H_c20 := hide c20
      have H_c21 := hide c21
      have H_c22 := hide c22
      have H_c23 := hide c23
      have H_c24 := hide c24
      have H_kF := hide kF
      clear kB kN kR kZ c2 c3 c4 c7 c8 c9 c10 c13 c17 c20 c21 c22 c23 c24 kF
      obtain ⟨rfl⟩ := zd
      subst z25_
      subst z
      clear h0 hd
      rw [if_pos (by rfl)]
      go_simp
      exact unhide hK _ _ ⟨u0, u1, u2, u3, u4, u5, u6, true, true, u9, u10, u11, u12, u13, u14, u15, u16, u17, u18, u19, u20, u21, u22, u23, u24, false, sb, nv, rfl, rfl, unhide H_kB, unhide H_kN, unhide H_kR, (fun h => nomatch h), unhide H_c2, unhide H_c3, unhide H_c4, unhide H_c7, (fun _ => rfl), (fun h => rfl), unhide H_c10, unhide H_c13, unhide H_c17, unhide H_c20, unhide H_c21, unhide H_c22, unhide H_c23, unhide H_c24, (fun h => nomatch h)⟩
    · intro h0 hd K hK
      have z : u9 = false := h0
      have z25_ : u25 = false := by
        cases hu : u25 with
        | false => rfl
        | true => exact nomatch z.symm.trans ((kF hu).2.2.2.2.2.2.2.2.2.1)
      have z22_ : u22 = false := by
        cases hu : u22 with
        | false => rfl
        | true => exact nomatch z.symm.trans ((c10 (c21 (c22 hu).2).1).2)
      have zd : u8 = true := by
        simp [Region.binds] at hd
        simp [hd]
      have H_kB := hide kB
      have H_kN := hide kN
      have H_kR := hide kR
      have H_kZ := hide kZ
      have H_c2 := hide c2
      have H_c3 := hide c3
      have H_c4 := hide c4
      have H_c7 := hide c7
      have H_c8 := hide c8
      have H_c9 := hide c9
      have H_c10 := hide c10
      have H_c13 := hide c13
      have H_c17 := hide c17
      have H_c20 := hide c20
      have H_c21 := hide c21
      have H_c22 := hide c22
      have H_c23 := hide c23
      have H_c24 := hide c24
      have H_kF := hide kF
      clear kB kN kR kZ c2 c3 c4 c7 c8 c9 c10 c13 c17 c20 c21 c22 c23 c24 kF
      obtain ⟨rfl⟩ := zd
      subst z25_
      subst z22_
      subst z
      clear h0 hd
      rw [if_pos (by rfl)]
      have hB := unhide H_kB rfl
      have cc := keep1 hB (unhide H5)
      clear hB
      go_simp
      exact unhide hK _ _ ⟨u0, u1, u2, u3, u4, u5, u6, u7, true, true, u10, u11, u12, u13, u14, u15, u16, u17, u18, u19, u20, u21, false, u23, u24, false, sb, nv, rfl, rfl, (fun _ => (unhide H_kB) rfl), unhide H_kN, (fun h => nomatch h), (fun h => nomatch h), unhide H_c2, unhide H_c3, unhide H_c4, unhide H_c7, unhide H_c8, (fun _ => rfl), (fun h => ⟨(unhide H_c10 h).1, rfl⟩), unhide H_c13, unhide H_c17, unhide H_c20, unhide H_c21, (fun h => nomatch h), unhide H_c23, unhide H_c24, (fun h => nomatch h)⟩
    · intro h0 hd K hK
      have z : u10 = false := h0
      have z25_ : u25 = false := by
        cases hu : u25 with
        | false => rfl
        | true => exact nomatch z.symm.trans ((kF hu).2.2.2.2.2.2.2.2.2.2.1)
      have zd : u5 = true ∧ u9 = true := by
        simp [Region.binds] at hd
        simp [hd]
      have H_kB := hide kB
      have H_kN := hide kN
      have H_kR := hide kR
      have H_kZ := hide kZ
      have H_c2 := hide c2
      have H_c3 := hide c3
      have H_c4 := hide c4
      have H_c7 := hide c7
      have H_c8 := hide c8
      have H_c9 := hide c9
      have H_c10 := hide c10
      have H_c13 := hide c13
      have H_c17 := hide c17
      have H_c20 := hide c20
      have H_c21 := hide c21
      have H_c22 := hide c22
      have H_c23 := hide c23
      have H_c24 := hide c24
      have H_kF := hide kF
      clear kB kN kR kZ c2 c3 c4 c7 c8 c9 c10 c13 c17 c20 c21 c22 c23 c24 kF
      obtain ⟨rfl, rfl⟩ := zd
      subst z25_
      subst z
      clear h0 hd
      rw [if_pos (by rfl)]
      go_simp
      exact unhide hK _ _ ⟨u0, u1, u2, u3, u4, true, u6, u7, u8, true, true, u11, u12, u13, u14, u15, u16, u17, u18, u19, u20, u21, u22, u23, u24, false, sb, nv, rfl, rfl, unhide H_kB, unhide H_kN, unhide H_kR, (fun h => nomatch h), unhide H_c2, unhide H_c3, unhide H_c4, unhide H_c7, unhide H_c8, unhide H_c9, (fun _ => ⟨rfl, rfl⟩), unhide H_c13, unhide H_c17, unhide H_c20, (fun h => ⟨rfl, (unhide H_c21 h).2.1, (unhide H_c21 h).2.2.1, (unhide H_c21 h).2.2.2⟩), unhide H_c22, unhide H_c23, unhide H_c24, (fun h => nomatch h)⟩
    · intro h0 hd K hK
      have z : u11 = false := h0
      have z25_ : u25 = false := by
        cases hu : u25 with
        | false => rfl
        | true => exact nomatch z.symm.trans ((kF hu).2.2.2.2.2.2.2.2.2.2.2.1)
      have H_kB := hide kB
      have H_kN := hide kN
      have H_kR := hide kR
      have H_kZ := hide kZ
      have H_c2 := hide c2
      have H_c3 := hide c3
      have H_c4 := hide c4
      have H_c7 := hide c7
      have H_c8 := hide c8
      have H_c9 := hide c9
      have H_c10 := hide c10
      have H_c13 := hide c13
      have H_c17 := hide c17
      have H_c20 := hide c20
      have H_c21 := hide c21
      have H_c22 := hide c22
      have H_c23 := hide c23
      have H_c24 := hide c24
      have H_kF := hide kF
      clear kB kN kR kZ c2 c3 c4 c7 c8 c9 c10 c13 c17 c20 c21 c22 c23 c24 kF
      subst z25_
      subst z
      clear h0 hd
      rw [if_pos (by rfl)]
      go_simp
      exact unhide hK _ _ ⟨u0, u1, u2, u3, u4, u5, u6, u7, u8, u9, u10, true, u12, u13, u14, u15, u16, u17, u18, u19, u20, u21, u22, u23, u24, false, sb, nv, rfl, rfl, unhide H_kB, unhide H_kN, unhide H_kR, (fun h => nomatch h), unhide H_c2, unhide H_c3, unhide H_c4, unhide H_c7, unhide H_c8, unhide H_c9, unhide H_c10, (fun h => ⟨rfl, (unhide H_c13 h).2⟩), unhide H_c17, unhide H_c20, unhide H_c21, unhide H_c22, unhide H_c23, unhide H_c24, (fun h => nomatch h)⟩
    · intro h0 hd K hK
      have z : u12 = false := h0
      have z25_ : u25 = false := by
        cases hu : u25 with
        | false => rfl
        | true => exact nomatch z.symm.trans ((kF hu).2.2.2.2.2.2.2.2.2.2.2.2.1)
      have H_kB := hide kB
      have H_kN := hide kN
      have H_kR := hide kR
      have H_kZ := hide kZ
      have H_c2 := hide c2
      have H_c3 := hide c3
      have H_c4 := hide c4
      have H_c7 := hide c7
      have H_c8 := hide c8
      have H_c9 := hide c9
      have H_c10 := hide c10
      have H_c13 := hide c13
      have H_c17 := hide c17
      have H_c20 := hide c20
      have H_c21 := hide c21
      have H_c22 := hide c22
      have H_c23 := hide c23
      have H_c24 := hide c24
      have H_kF := hide kF
      clear kB kN kR kZ c2 c3 c4 c7 c8 c9 c10 c13 c17 c20 c21 c22 c23 c24 kF
      subst z25_
      subst z
      clear h0 hd
      rw [if_pos (by rfl)]
      go_simp
      exact unhide hK _ _ ⟨u0, u1, u2, u3, u4, u5, u6, u7, u8, u9, u10, u11, true, u13, u14, u15, u16, u17, u18, u19, u20, u21, u22, u23, u24, false, sb, nv, rfl, rfl, unhide H_kB, unhide H_kN, unhide H_kR, (fun h => nomatch h), unhide H_c2, unhide H_c3, unhide H_c4, unhide H_c7, unhide H_c8, unhide H_c9, unhide H_c10, (fun h => ⟨(unhide H_c13 h).1, rfl⟩), unhide H_c17, unhide H_c20, unhide H_c21, unhide H_c22, unhide H_c23, unhide H_c24, (fun h => nomatch h)⟩
    · intro h0 hd K hK
      have z : u13 = false := h0
      have z25_ : u25 = false := by
        cases hu : u25 with
        | false => rfl
        | true => exact nomatch z.symm.trans ((kF hu).2.2.2.2.2.2.2.2.2.2.2.2.2.1)
      have zd : u11 = true ∧ u12 = true := by
        simp [Region.binds] at hd
        simp [hd]
      have H_kB := hide kB
      have H_kN := hide kN
      have H_kR := hide kR
      have H_kZ := hide kZ
      have H_c2 := hide c2
      have H_c3 := hide c3
      have H_c4 := hide c4
      have H_c7 := hide c7
      have H_c8 := hide c8
      have H_c9 := hide c9
      have H_c10 := hide c10
      have H_c13 := hide c13
      have H_c17 := hide c17
      have H_c20 := hide c20
      have H_c21 := hide c21
      have H_c22 := hide c22
      have H_c23 := hide c23
      have H_c24 := hide c24
      have H_kF := hide kF
      clear kB kN kR kZ c2 c3 c4 c7 c8 c9 c10 c13 c17 c20 c21 c22 c23 c24 kF
      obtain ⟨rfl, rfl⟩ := zd
      subst z25_
      subst z
      clear h0 hd
      rw [if_pos (by rfl)]
      go_simp
      exact unhide hK _ _ ⟨u0, u1, u2, u3, u4, u5, u6, u7, u8, u9, u10, true, true, true, u14, u15, u16, u17, u18, u19, u20, u21, u22, u23, u24, false, sb, nv, rfl, rfl, unhide H_kB, unhide H_kN, unhide H_kR, (fun h => nomatch h), unhide H_c2, unhide H_c3, unhide H_c4, unhide H_c7, unhide H_c8, unhide H_c9, unhide H_c10, (fun _ => ⟨rfl, rfl⟩), unhide H_c17, unhide H_c20, (fun h => ⟨(unhide H_c21 h).1, rfl, (unhide H_c21 h).2.2.1, (unhide H_c21 h).2.2.2⟩), unhide H_c22, unhide H_c23, unhide H_c24, (fun h => nomatch h)⟩
    · intro h0 hd K hK
      have z : u14 = false := h0
      have z25_ : u25 = false := by
        cases hu : u25 with
        | false => rfl
        | true => exact nomatch z.symm.trans ((kF hu).2.2.2.2.2.2.2.2.2.2.2.2.2.2.1)
      have H_kB := hide kB
      have H_kN := hide kN
      have H_kR := hide kR
      have H_kZ := hide kZ
      have H_c2 := hide c2
      have H_c3 := hide c3
      have H_c4 := hide c4
      have H_c7 := hide c7
      have H_c8 := hide c8
      have H_c9 := hide c9
      have H_c10 := hide c10
      have H_c13 := hide c13
      have H_c17 := hide c17
      have H_c20 := hide c20
      have H_c21 := hide c21
      have H_c22 := hide c22
      have H_c23 := hide c23
      have H_c24 := hide c24
      have H_kF := hide kF
      clear kB kN kR kZ c2 c3 c4 c7 c8 c9 c10 c13 c17 c20 c21 c22 c23 c24 kF
      subst z25_
      subst z
      clear h0 hd
      rw [if_pos (by rfl)]
      go_simp
      exact unhide hK _ _ ⟨u0, u1, u2, u3, u4, u5, u6, u7, u8, u9, u10, u11, u12, u13, true, u15, u16, u17, u18, u19, u20, u21, u22, u23, u24, false, sb, nv, rfl, rfl, unhide H_kB, unhide H_kN, unhide H_kR, (fun h => nomatch h), unhide H_c2, unhide H_c3, unhide H_c4, unhide H_c7, unhide H_c8, unhide H_c9, unhide H_c10, unhide H_c13, (fun h => ⟨rfl, (unhide H_c17 h).2.1, (unhide H_c17 h).2.2⟩), unhide H_c20, unhide H_c21, unhide H_c22, unhide H_c23, unhide H_c24, (fun h => nomatch h)⟩
    · intro h0 hd K hK
      have z : u15 = false := h0
      have z25_ : u25 = false := by
        cases hu : u25 with
        | false => rfl
        | true => exact nomatch z.symm.trans ((kF hu).2.2.2.2.2.2.2.2.2.2.2.2.2.2.2.1)
      have H_kB := hide kB
      have H_kN := hide kN
      have H_kR := hide kR
      have H_kZ := hide kZ
      have H_c2 := hide c2
      have H_c3 := hide c3
      have H_c4 := hide c4
      have H_c7 := hide c7
      have H_c8 := hide c8
      have H_c9 := hide c9
      have H_c10 := hide c10
      have H_c13 := hide c13
      have H_c17 := hide c17
      have H_c20 := hide c20
      have H_c21 := hide c21
      have H_c22 := hide c22
      have H_c23 := hide c23
      have H_c24 := hide c24
      have H_kF := hide kF
      clear kB kN kR kZ c2 c3 c4 c7 c8 c9 c10 c13 c17 c20 c21 c22 c23 c24 kF
      subst z25_
      subst z
      clear h0 hd
      rw [if_pos (by rfl)]
      go_simp
      exact unhide hK _ _ ⟨u0, u1, u2, u3, u4, u5, u6, u7, u8, u9, u10, u11, u12, u13, u14, true, u16, u17, u18, u19, u20, u21, u22, u23, u24, false, sb, nv, rfl, rfl, unhide H_kB, unhide H_kN, unhide H_kR, (fun h => nomatch h), unhide H_c2, unhide H_c3, unhide H_c4, unhide H_c7, unhide H_c8, unhide H_c9, unhide H_c10, unhide H_c13, (fun h => ⟨(unhide H_c17 h).1, rfl, (unhide H_c17 h).2.2⟩), unhide H_c20, unhide H_c21, unhide H_c22, unhide H_c23, unhide H_c24, (fun h => nomatch h)⟩
    · intro h0 hd K hK
      have z : u16 = false := h0
      have z25_ : u25 = false := by
        cases hu : u25 with
        | false => rfl
        | true => exact nomatch z.symm.trans ((kF hu).2.2.2.2.2.2.2.2.2.2.2.2.2.2.2.2.1)
      have H_kB := hide kB
      have H_kN := hide kN
      have H_kR := hide kR
      have H_kZ := hide kZ
      have H_c2 := hide c2
      have H_c3 := hide c3
      have H_c4 := hide c4
      have H_c7 := hide c7
      have H_c8 := hide c8
      have H_c9 := hide c9
      have H_c10 := hide c10
      have H_c13 := hide c13
      have H_c17 := hide c17
      have H_c20 := hide c20
      have H_c21 := hide c21
      have H_c22 := hide c22
      have H_c23 := hide c23
      have H_c24 := hide c24
      have H_kF := hide kF
      clear kB kN kR kZ c2 c3 c4 c7 c8 c9 c10 c13 c17 c20 c21 c22 c23 c24 kF
      subst z25_
      subst z
      clear h0 hd
      rw [if_pos (by rfl)]
      go_simp
      exact unhide hK _ _ ⟨u0, u1, u2, u3, u4, u5, u6, u7, u8, u9, u10, u11, u12, u13, u14, u15, true, u17, u18, u19, u20, u21, u22, u23, u24, false, sb, nv, rfl, rfl, unhide H_kB, unhide H_kN, unhide H_kR, (fun h => nomatch h), unhide H_c2, unhide H_c3, unhide H_c4, unhide H_c7, unhide H_c8, unhide H_c9, unhide H_c10, unhide H_c13, (fun h => ⟨(unhide H_c17 h).1, (unhide H_c17 h).2.1, rfl⟩), unhide H_c20, unhide H_c21, unhide H_c22, unhide H_c23, unhide H_c24, (fun h => nomatch h)⟩
    · intro h0 hd K hK
      have z : u17 = false := h0
      have z25_ : u25 = false := by
        cases hu : u25 with
        | false => rfl
        | true => exact nomatch z.symm.trans ((kF hu).2.2.2.2.2.2.2.2.2.2.2.2.2.2.2.2.2.1)
      have zd : u14 = true ∧ u15 = true ∧ u16 = true := by
        simp [Region.binds] at hd
        simp [hd]
      have H_kB := hide kB
      have H_kN := hide kN
      have H_kR := hide kR
      have H_kZ := hide kZ
      have H_c2 := hide c2
      have H_c3 := hide c3
      have H_c4 := hide c4
      have H_c7 := hide c7
      have H_c8 := hide c8
      have H_c9 := hide c9
      have H_c10 := hide c10
      have H_c13 := hide c13
      have H_c17 := hide c17
      have H_c20 := hide c20
      have H_c21 := hide c21
      have H_c22 := hide c22
      have H_c23 := hide c23
      have H_c24 := hide c24
      have H_kF := hide kF
      clear kB kN kR kZ c2 c3 c4 c7 c8 c9 c10 c13 c17 c20 c21 c22 c23 c24 kF
      obtain ⟨rfl, rfl, rfl⟩ := zd
      subst z25_
      subst z
      clear h0 hd
      rw [if_pos (by rfl)]
      go_simp
      exact unhide hK _ _ ⟨u0, u1, u2, u3, u4, u5, u6, u7, u8, u9, u10, u11, u12, u13, true, true, true, true, u18, u19, u20, u21, u22, u23, u24, false, sb, nv, rfl, rfl, unhide H_kB, unhide H_kN, unhide H_kR, (fun h => nomatch h), unhide H_c2, unhide H_c3, unhide H_c4, unhide H_c7, unhide H_c8, unhide H_c9, unhide H_c10, unhide H_c13, (fun _ => ⟨rfl, rfl, rfl⟩), unhide H_c20, (fun h => ⟨(unhide H_c21 h).1, (unhide H_c21 h).2.1, rfl, (unhide H_c21 h).2.2.2⟩), unhide H_c22, unhide H_c23, unhide H_c24, (fun h => nomatch h)⟩
    · intro h0 hd K hK
      have z : u18 = false := h0
      have z25_ : u25 = false := by
        cases hu : u25 with
        | false => rfl
        | true => exact nomatch z.symm.trans ((kF hu).2.2.2.2.2.2.2.2.2.2.2.2.2.2.2.2.2.2.1)
      have H_kB := hide kB
      have H_kN := hide kN
      have H_kR := hide kR
      have H_kZ := hide kZ
      have H_c2 := hide c2
      have H_c3 := hide c3
      have H_c4 := hide c4
      have H_c7 := hide c7
      have H_c8 := hide c8
      have H_c9 := hide c9
      have H_c10 := hide c10
      have H_c13 := hide c13
      have H_c17 := hide c17
      have H_c20 := hide c20
      have H_c21 := hide c21
      have H_c22 := hide c22
      have H_c23 := hide c23
      have H_c24 := hide c24
      have H_kF := hide kF
      clear kB kN kR kZ c2 c3 c4 c7 c8 c9 c10 c13 c17 c20 c21 c22 c23 c24 kF
      subst z25_
      subst z
      clear h0 hd
      rw [if_pos (by rfl)]
      go_simp
      exact unhide hK _ _ ⟨u0, u1, u2, u3, u4, u5, u6, u7, u8, u9, u10, u11, u12, u13, u14, u15, u16, u17, true, u19, u20, u21, u22, u23, u24, false, sb, nv, rfl, rfl, unhide H_kB, unhide H_kN, unhide H_kR, (fun h => nomatch h), unhide H_c2, unhide H_c3, unhide H_c4, unhide H_c7, unhide H_c8, unhide H_c9, unhide H_c10, unhide H_c13, unhide H_c17, (fun h => ⟨rfl, (unhide H_c20 h).2⟩), unhide H_c21, unhide H_c22, unhide H_c23, unhide H_c24, (fun h => nomatch h)⟩
    · intro h0 hd K hK
      have z : u19 = false := h0
      have z25_ : u25 = false := by
        cases hu : u25 with
        | false => rfl
        | true => exact nomatch z.symm.trans ((kF hu).2.2.2.2.2.2.2.2.2.2.2.2.2.2.2.2.2.2.2.1)
      have H_kB := hide kB
      have H_kN := hide kN
      have H_kR := hide kR
      have H_kZ := hide kZ
      have H_c2 := hide c2
      have H_c3 := hide c3
      have H_c4 := hide c4
      have H_c7 := hide c7
      have H_c8 := hide c8
      have H_c9 := hide c9
      have H_c10 := hide c10
      have H_c13 := hide c13
      have H_c17 := hide c17
      have H_c20 := hide c20
      have H_c21 := hide c21
      have H_c22 := hide c22
      have H_c23 := hide c23
      have H_c24 := hide c24
      have H_kF := hide kF
      clear kB kN kR kZ c2 c3 c4 c7 c8 c9 c10 c13 c17 c20 c21 c22 c23 c24 kF
      subst z25_
      subst z
      clear h0 hd
      rw [if_pos (by rfl)]
      go_simp
      exact unhide hK _ _ ⟨u0, u1, u2, u3, u4, u5, u6, u7, u8, u9, u10, u11, u12, u13, u14, u15, u16, u17, u18, true, u20, u21, u22, u23, u24, false, sb, nv, rfl, rfl, unhide H_kB, unhide H_kN, unhide H_kR, (fun h => nomatch h), unhide H_c2, unhide H_c3, unhide H_c4, unhide H_c7, unhide H_c8, unhide H_c9, unhide H_c10, unhide H_c13, unhide H_c17, (fun h => ⟨(unhide H_c20 h).1, rfl⟩), unhide H_c21, unhide H_c22, unhide H_c23, unhide H_c24, (fun h => nomatch h)⟩
    · intro h0 hd K hK
      have z : u20 = false := h0
      have z25_ : u25 = false := by
        cases hu : u25 with
        | false => rfl
        | true => exact nomatch z.symm.trans ((kF hu).2.2.2.2.2.2.2.2.2.2.2.2.2.2.2.2.2.2.2.2.1)
      have zd : u18 = true ∧ u19 = true := by
        simp [Region.binds] at hd
        simp [hd]
      have H_kB := hide kB
      have H_kN := hide kN
      have H_kR := hide kR
      have H_kZ := hide kZ
      have H_c2 := hide c2
      have H_c3 := hide c3
      have H_c4 := hide c4
      have H_c7 := hide c7
      have H_c8 := hide c8
      have H_c9 := hide c9
      have H_c10 := hide c10
      have H_c13 := hide c13
      have H_c17 := hide c17
      have H_c20 := hide c20
      have H_c21 := hide c21
      have H_c22 := hide c22
      have H_c23 := hide c23
      have H_c24 := hide c24
      have H_kF := hide kF
      clear kB kN kR kZ c2 c3 c4 c7 c8 c9 c10 c13 c17 c20 c21 c22 c23 c24 kF
      obtain ⟨rfl, rfl⟩ := zd
      subst z25_
      subst z
      clear h0 hd
      rw [if_pos (by rfl)]
      go_simp
      exact unhide hK _ _ ⟨u0, u1, u2, u3, u4, u5, u6, u7, u8, u9, u10, u11, u12, u13, u14, u15, u16, u17, true, true, true, u21, u22, u23, u24, false, sb, nv, rfl, rfl, unhide H_kB, unhide H_kN, unhide H_kR, (fun h => nomatch h), unhide H_c2, unhide H_c3, unhide H_c4, unhide H_c7, unhide H_c8, unhide H_c9, unhide H_c10, unhide H_c13, unhide H_c17, (fun _ => ⟨rfl, rfl⟩), (fun h => ⟨(unhide H_c21 h).1, (unhide H_c21 h).2.1, (unhide H_c21 h).2.2.1, rfl⟩), unhide H_c22, unhide H_c23, unhide H_c24, (fun h => nomatch h)⟩
    · intro h0 hd K hK
      have z : u21 = false := h0
      have z25_ : u25 = false := by
        cases hu : u25 with
        | false => rfl
        | true => exact nomatch z.symm.trans ((kF hu).2.2.2.2.2.2.2.2.2.2.2.2.2.2.2.2.2.2.2.2.2.1)
      have z22_ : u22 = false := by
        cases hu : u22 with
        | false => rfl
        | true => exact nomatch z.symm.trans ((c22 hu).2)
      have zd : u10 = true ∧ u13 = true ∧ u17 = true ∧ u20 = true := by
        simp [Region.binds] at hd
        simp [hd]
      have H_kB := hide kB
      have H_kN := hide kN
      have H_kR := hide kR
      have H_kZ := hide kZ
      have H_c2 := hide c2
      have H_c3 := hide c3
      have H_c4 := hide c4
      have H_c7 := hide c7
      have H_c8 := hide c8
      have H_c9 := hide c9
      have H_c10 := hide c10
      have H_c13 := hide c13
      have H_c17 := hide c17
      have H_c20 := hide c20
      have H_c21 := hide c21
      have H_c22 := hide c22
      have H_c23 := hide c23
      have H_c24 := hide c24
      have H_kF := hide kF
      clear kB kN kR kZ c2 c3 c4 c7 c8 c9 c10 c13 c17 c20 c21 c22 c23 c24 kF
      obtain ⟨rfl, rfl, rfl, rfl⟩ := zd
      subst z25_
      subst z22_
      subst z
      clear h0 hd
      rw [if_pos (by rfl)]
      have hB := unhide H_kB rfl
      clear hB
      go_simp
      exact unhide hK _ _ ⟨u0, u1, u2, u3, u4, u5, u6, u7, u8, u9, true, u11, u12, true, u14, u15, u16, true, u18, u19, true, true, false, u23, u24, false, W.heap.size, nv, rfl, rfl, (fun _ => ba ((unhide H_kB) rfl) _), (fun _ _ => ⟨((unhide H_kB) rfl).size, vb_new W 65 (mv4 x oy y z) _ rfl⟩), (fun h => nomatch h), (fun h => nomatch h), unhide H_c2, unhide H_c3, unhide H_c4, unhide H_c7, unhide H_c8, unhide H_c9, unhide H_c10, unhide H_c13, unhide H_c17, unhide H_c20, (fun _ => ⟨rfl, rfl, rfl, rfl⟩), (fun h => nomatch h), unhide H_c23, unhide H_c24, (fun h => nomatch h)⟩
    · intro h0 hd K hK
      have z : u22 = false := h0
      have z25_ : u25 = false := by
        cases hu : u25 with
        | false => rfl
        | true => exact nomatch z.symm.trans ((kF hu).2.2.2.2.2.2.2.2.2.2.2.2.2.2.2.2.2.2.2.2.2.2.1)
      have zd : u4 = true ∧ u21 = true := by
        simp [Region.binds] at hd
        simp [hd]
      have H_kB := hide kB
      have H_kN := hide kN
      have H_kR := hide kR
      have H_kZ := hide kZ
      have H_c2 := hide c2
      have H_c3 := hide c3
      have H_c4 := hide c4
      have H_c7 := hide c7
      have H_c8 := hide c8
      have H_c9 := hide c9
      have H_c10 := hide c10
      have H_c13 := hide c13
      have H_c17 := hide c17
      have H_c20 := hide c20
      have H_c21 := hide c21
      have H_c22 := hide c22
      have H_c23 := hide c23
      have H_c24 := hide c24
      have H_kF := hide kF
      clear kB kN kR kZ c2 c3 c4 c7 c8 c9 c10 c13 c17 c20 c21 c22 c23 c24 kF
      obtain ⟨rfl, rfl⟩ := zd
      subst z25_
      subst z
      clear h0 hd
      rw [if_pos (by rfl)]
      have hB := unhide H_kB rfl
      obtain ⟨hp1, hp2⟩ := unhide H_kN rfl rfl
      have hr := (unhide HR).belo hB
      refine wp_append_new W (.tmp 85) (.tmp 102) 29 (by rfl) B 65 iP _ 4 32 Try.underlying29 hi1 hy0 hy1 hy2 rfl (by omega) ov m cs (by rfl) hr ⟨sb, 0, none⟩ 4 4 (mv4 x oy y z) (by rfl) (by rfl) (mv_cells hp2) (mv4_one x oy y z) (by unfold maxLen; omega) (by omega) (Nat.le_trans hBV hB.size) ?_
      intro v1' w1 hown' hgrow _ hnb
      have hA := Apz.of hB hBV hr hown' hgrow hnb
      exact unhide hK _ _ ⟨u0, u1, u2, u3, true, u5, u6, u7, u8, u9, u10, u11, u12, u13, u14, u15, u16, u17, u18, u19, u20, true, true, u23, u24, false, sb, v1', rfl, rfl, (fun h => nomatch h), (fun _ h => nomatch h), (fun _ _ => hA), (fun h => nomatch h), unhide H_c2, unhide H_c3, unhide H_c4, unhide H_c7, unhide H_c8, unhide H_c9, unhide H_c10, unhide H_c13, unhide H_c17, unhide H_c20, unhide H_c21, (fun _ => ⟨rfl, rfl⟩), unhide H_c23, unhide H_c24, (fun h => nomatch h)⟩
    · intro h0 hd K hK
      have z : u23 = false := h0
      have z25_ : u25 = false := by
        cases hu : u25 with
        | false => rfl
        | true => exact nomatch z.symm.trans ((kF hu).2.2.2.2.2.2.2.2.2.2.2.2.2.2.2.2.2.2.2.2.2.2.2.1)
      have zd : u0 = true := by
        simp [Region.binds] at hd
        simp [hd]
      have H_kB := hide kB
      have H_kN := hide kN
      have H_kR := hide kR
      have H_kZ := hide kZ
      have H_c2 := hide c2
      have H_c3 := hide c3
      have H_c4 := hide c4
      have H_c7 := hide c7
      have H_c8 := hide c8
      have H_c9 := hide c9
      have H_c10 := hide c10
      have H_c13 := hide c13
      have H_c17 := hide c17
      have H_c20 := hide c20
      have H_c21 := hide c21
      have H_c22 := hide c22
      have H_c23 := hide c23
      have H_c24 := hide c24
      have H_kF := hide kF
      clear kB kN kR kZ c2 c3 c4 c7 c8 c9 c10 c13 c17 c20 c21 c22 c23 c24 kF
      obtain ⟨rfl⟩ := zd
      subst z25_
      subst z
      clear h0 hd
      rw [if_pos (by rfl)]
      go_simp
      exact unhide hK _ _ ⟨true, u1, u2, u3, u4, u5, u6, u7, u8, u9, u10, u11, u12, u13, u14, u15, u16, u17, u18, u19, u20, u21, u22, true, u24, false, sb, nv, rfl, rfl, unhide H_kB, unhide H_kN, unhide H_kR, (fun h => nomatch h), unhide H_c2, unhide H_c3, unhide H_c4, unhide H_c7, unhide H_c8, unhide H_c9, unhide H_c10, unhide H_c13, unhide H_c17, unhide H_c20, unhide H_c21, unhide H_c22, (fun _ => rfl), (fun h => rfl), (fun h => nomatch h)⟩
    · intro h0 hd K hK
      have z : u24 = false := h0
      have z25_ : u25 = false := by
        cases hu : u25 with
        | false => rfl
        | true => exact nomatch z.symm.trans ((kF hu).2.2.2.2.2.2.2.2.2.2.2.2.2.2.2.2.2.2.2.2.2.2.2.2)
      have zd : u23 = true := by
        simp [Region.binds] at hd
        simp [hd]
      have H_kB := hide kB
      have H_kN := hide kN
      have H_kR := hide kR
      have H_kZ := hide kZ
      have H_c2 := hide c2
      have H_c3 := hide c3
      have H_c4 := hide c4
      have H_c7 := hide c7
      have H_c8 := hide c8
      have H_c9 := hide c9
      have H_c10 := hide c10
      have H_c13 := hide c13
      have H_c17 := hide c17
      have H_c20 := hide c20
      have H_c21 := hide c21
      have H_c22 := hide c22
      have H_c23 := hide c23
      have H_c24 := hide c24
      have H_kF := hide kF
      clear kB kN kR kZ c2 c3 c4 c7 c8 c9 c10 c13 c17 c20 c21 c22 c23 c24 kF
      obtain ⟨rfl⟩ := zd
      subst z25_
      subst z
      clear h0 hd
      rw [if_pos (by rfl)]
      go_simp
      exact unhide hK _ _ ⟨u0, u1, u2, u3, u4, u5, u6, u7, u8, u9, u10, u11, u12, u13, u14, u15, u16, u17, u18, u19, u20, u21, u22, true, true, false, sb, nv, rfl, rfl, unhide H_kB, unhide H_kN, unhide H_kR, (fun h => nomatch h), unhide H_c2, unhide H_c3, unhide H_c4, unhide H_c7, unhide H_c8, unhide H_c9, unhide H_c10, unhide H_c13, unhide H_c17, unhide H_c20, unhide H_c21, unhide H_c22, unhide H_c23, (fun _ => rfl), (fun h => nomatch h)⟩
    · intro h0 hd K hK
      have z : u25 = false := h0
      have zd : u24 = true ∧ u22 = true ∧ u0 = true ∧ u1 = true ∧ u2 = true ∧ u3 = true ∧ u4 = true ∧ u5 = true ∧ u6 = true ∧ u7 = true ∧ u8 = true ∧ u9 = true ∧ u10 = true ∧ u11 = true ∧ u12 = true ∧ u13 = true ∧ u14 = true ∧ u15 = true ∧ u16 = true ∧ u17 = true ∧ u18 = true ∧ u19 = true ∧ u20 = true ∧ u21 = true ∧ u23 = true := by
        simp [Region.binds] at hd
        simp_all
      have H_kB := hide kB
      have H_kN := hide kN
      have H_kR := hide kR
      have H_kZ := hide kZ
      have H_c2 := hide c2
      have H_c3 := hide c3
      have H_c4 := hide c4
      have H_c7 := hide c7
      have H_c8 := hide c8
      have H_c9 := hide c9
      have H_c10 := hide c10
      have H_c13 := hide c13
      have H_c17 := hide c17
      have H_c20 := hide c20
      have H_c21 := hide c21
      have H_c22 := hide c22
      have H_c23 := hide c23
      have H_c24 := hide c24
      have H_kF := hide kF
      clear kB kN kR kZ c2 c3 c4 c7 c8 c9 c10 c13 c17 c20 c21 c22 c23 c24 kF
      obtain ⟨rfl, rfl, rfl, rfl, rfl, rfl, rfl, rfl, rfl, rfl, rfl, rfl, rfl, rfl, rfl, rfl, rfl, rfl, rfl, rfl, rfl, rfl, rfl, rfl, rfl⟩ := zd
      subst z
      clear h0 hd
      rw [if_pos (by rfl)]
      have hA := unhide H_kR rfl rfl
      obtain ⟨gn, nc, hnv⟩ := Mvs.slc hA.row (by omega)
      subst hnv
      have cc : W.cell? ⟨gb, 6, none⟩ = some ov := (World.cell?_of_block (w := V) (a := ⟨gb, 6, none⟩) (hA.keep gb hgb hne)).trans (unhide H6)
      have fz : W.frozen? ⟨gb, 6, none⟩ = false := by
          have h1 := hA.keep gb hgb hne
          simp only [World.frozen?] at hfz ⊢
          rw [h1]
          exact hfz
      go_simp
      exact unhide hK _ _ ⟨true, true, true, true, true, true, true, true, true, true, true, true, true, true, true, true, true, true, true, true, true, true, true, true, true, true, sb, (.slice (some ⟨gn, 0, none⟩) (m + 4) nc), rfl, rfl, (fun h => nomatch h), (fun _ h => nomatch h), (fun _ h => nomatch h), (fun _ => ⟨W, hA, rfl⟩), (fun _ => rfl), (fun _ => rfl), (fun _ => rfl), (fun _ => rfl), (fun _ => rfl), (fun _ => rfl), (fun _ => ⟨rfl, rfl⟩), (fun _ => ⟨rfl, rfl⟩), (fun _ => ⟨rfl, rfl, rfl⟩), (fun _ => ⟨rfl, rfl⟩), (fun _ => ⟨rfl, rfl, rfl, rfl⟩), (fun _ => ⟨rfl, rfl⟩), (fun _ => rfl), (fun _ => rfl), (fun _ => ⟨rfl, rfl, rfl, rfl, rfl, rfl, rfl, rfl, rfl, rfl, rfl, rfl, rfl, rfl, rfl, rfl, rfl, rfl, rfl, rfl, rfl, rfl, rfl, rfl, rfl⟩)⟩
  case hend =>
    rintro Lb A W ⟨u0, u1, u2, u3, u4, u5, u6, u7, u8, u9, u10, u11, u12, u13, u14, u15, u16, u17, u18, u19, u20, u21, u22, u23, u24, u25, sb, nv, rfl, rfl, kB, kN, kR, kZ, c2, c3, c4, c7, c8, c9, c10, c13, c17, c20, c21, c22, c23, c24, kF⟩ hL
    have hl : u0 = true ∧ u1 = true ∧ u2 = true ∧ u3 = true ∧ u4 = true ∧ u5 = true ∧ u6 = true ∧ u7 = true ∧ u8 = true ∧ u9 = true ∧ u10 = true ∧ u11 = true ∧ u12 = true ∧ u13 = true ∧ u14 = true ∧ u15 = true ∧ u16 = true ∧ u17 = true ∧ u18 = true ∧ u19 = true ∧ u20 = true ∧ u21 = true ∧ u22 = true ∧ u23 = true ∧ u24 = true ∧ u25 = true := by
      have h2 := congrArg Array.toList hL
      simpa [List.replicate] using h2
    obtain ⟨rfl, rfl, rfl, rfl, rfl, rfl, rfl, rfl, rfl, rfl, rfl, rfl, rfl, rfl, rfl, rfl, rfl, rfl, rfl, rfl, rfl, rfl, rfl, rfl, rfl, rfl⟩ := hl
    obtain ⟨W1, hA, rfl⟩ := kZ rfl
    exact unhide HQ sb nv W1 hA
end Go.Proofs.Ytjhldjojkaphkaa

namespace Go.Proofs.Ytjhldjojkaphkaa
open Go.ChangeShapes Go.WideShapes Go.ChangeAt Go.RowKit
set_option linter.unusedVariables false
set_option linter.unusedSimpArgs false

theorem tlM_any (r : Int) (w : World) : Calls Try.prog 68 #[.int .i64 r] w fun e w' => e = .returned (.bool (decide (0 ≤ r) && decide (r ≤ 3))) ∧ w' = w := by
  by_cases h1 : 0 ≤ r
  · by_cases h2 : r ≤ 3
    · have t1 := decide_eq_true h1
      have t2 := decide_eq_true h2
      go_enter Try.func68, Try.ntmps68
      go_wp2_with fail
      go_ret
      exact ⟨by simp [h1, h2], rfl⟩
    · have t1 := decide_eq_true h1
      have t2 := decide_eq_false h2
      go_enter Try.func68, Try.ntmps68
      go_wp2_with fail
      go_ret
      exact ⟨by simp [h1, h2], rfl⟩
  · have t1 := decide_eq_false h1
    go_enter Try.func68, Try.ntmps68
    go_wp2_with fail
    go_ret
    exact ⟨by simp [h1], rfl⟩
theorem mins_take (O : List Int) {cs : List Nat} {i c : Nat} (v : Int) (h : cs[i]? = some c) : mins O (cs.take (i + 1)) v = (mins O (cs.take i) v).set c (min (tp (mins O (cs.take i) v) c) v) := by
  rw [List.take_add_one, h]
  exact mins_snoc _ _ _ _
end Go.Proofs.Ytjhldjojkaphkaa

namespace Go.Proofs.Ytjhldjojkaphkaa
open Go.ChangeShapes Go.WideShapes Go.ChangeAt Go.RowKit
set_option linter.unusedVariables false
set_option linter.unusedSimpArgs false

theorem Same.dnz {a w : World} (h : Same a w) (n : Nat) : Same a (w.drewN n) := ⟨h.os, h.tape, h.output, h.heap⟩
set_option maxHeartbeats 8000000 in
set_option maxRecDepth 100000 in
theorem stM_any (W H r x y n ct pc gb gt gl B : Nat) (pu : Option Addr) (z : Int) (s : Zs) (w : World) (hW : W ≤ 24) (hH : H ≤ 24) (hr : r ≤ 3) (hx : x < W) (hy : y < H) (hn : n = W * H) (hz0 : 0 ≤ z) (hz1 : z ≤ 24)
    (hB1 : B ≤ gb) (hB2 : B ≤ gt) (e1 : gb ≠ gt) (e2 : gl ≠ gb) (e3 : gl ≠ gt) (hgl : gl < w.heap.size) (hT : s.T.length = n ∧ ∀ i, 0 ≤ tp s.T i ∧ tp s.T i ≤ 24) (few : 1 + 4 * s.ps.length ≤ 2004) (hZ : Zm w B gb gt gl n ct W H r pc pu s) :
    Calls Try.prog 43 #[.pointer (some ⟨gb, 0, none⟩), .int .i64 (x : Int), .int .i64 (y : Int), .int .i64 z] w fun e w' => e = .returned (.tuple #[]) ∧ Zm w' B gb gt gl n ct W H r pc pu (zst W H r s (x, y, z)) ∧ Below B w w' ∧ w'.heap[gl]? = w.heap[gl]? := by
  obtain ⟨ov, hv, hro, hnb⟩ := hZ.out
  obtain ⟨go, oc, rfl, hgo1, hgo2⟩ : ∃ g cap, ov = .slice (some ⟨g, 0, none⟩) (1 + 4 * s.ps.length) cap ∧ B ≤ g ∧ g < w.heap.size := by
    rcases hro.2 with ⟨_, h1⟩ | ⟨g, cap, cur, hv, hB, hh, r⟩
    · omega
    · exact ⟨g, cap, hv, hB, (Array.getElem?_eq_some_iff.1 hh).1⟩
  have htp := hZ.tops
  have hgt : gt < w.heap.size := (World.ownsRow.lt htp gt rfl).2
  have hnb' := hnb go rfl
  have hmm : ∀ cs : List Nat, hi s.T cs ≤ z ∨ ¬ hi s.T cs ≤ z := fun _ => Classical.em _
  have HZN : Hid (zst W H r s (x, y, z) = if hi s.T (cols W H r x y) ≤ z then s else if 2000 < 1 + 4 * s.ps.length then s else ⟨mins s.T (cols W H r x y) z, s.ps ++ [(x, y, z)]⟩) := hide rfl
  have HC := hide (fun (X : World) => colM_any W H r x y pu n pc X hW hH hr hx hy)
  have HCL := hide (fun (i : Nat) (hi : i ∈ cols W H r x y) => cols_lt (W := W) (H := H) hr (by omega) hi)
  have HAH := hide (fun cs => any_hi s.T cs z hz0)
  have HSN := hide (zcs_snoc s.ps x y z)
  have HZ := hide hZ
  have HV := hide hv
  have HRO := hide hro
  have HTP := hide htp
  have HT := hide hT
  have HN := hide hn
  obtain ⟨cs, hcs⟩ : ∃ cs, cols W H r x y = cs := ⟨_, rfl⟩
  rw [hcs] at HZN HC HCL
  obtain ⟨oy, hoy⟩ : ∃ oy, zoy s.ps s.ps.length = oy := ⟨_, rfl⟩
  rw [hoy] at HV HSN
  have k0 := (unhide HV).cell (m := 0) rfl
  have k1 := (unhide HV).cell (m := 1) rfl
  have k2 := (unhide HV).cell (m := 2) rfl
  have k3 := (unhide HV).cell (m := 3) rfl
  have hgb := (unhide HV).lt
  have HBS : Hid (B ≤ w.heap.size) := hide (by omega)
  unfold fldV at HC
  clear hcs hoy hZ hv hro htp hT hn hnb hmm
  go_enter Try.func43, Try.ntmps43
  go_wp2_with fail
  go_region_held3 (fun wx => wx.cell? ⟨gb, 0, none⟩ = some (.int .i64 (W : Int)) ∧ wx.cell? ⟨gb, 1, none⟩ = some (.int .i64 (H : Int)) ∧ wx.cell? ⟨gb, 2, none⟩ = some (.slice pu n pc) ∧ wx.cell? ⟨gb, 3, none⟩ = some (.int .i64 (r : Int)))
    (simp (maxDischargeDepth := 12) [go_sem, le1, lt1, *])
    (first
    | (go_at_call 79; refine (unhide HC _).mono ?_; rintro e W1 ⟨⟨lv, rfl, hlv, hlr⟩, hb1⟩; have HB1 := hide hb1; have HLV := hide hlv; have HLR := hide hlr; have y0 := keep1 hb1 (b := gb) (o := 0) k0; have y1 := keep1 hb1 (b := gb) (o := 1) k1; have y2 := keep1 hb1 (b := gb) (o := 2) k2; have y3 := keep1 hb1 (b := gb) (o := 3) k3; clear hb1 hlv hlr))
  obtain ⟨ql, cl, rfl, hql1, hql2, hcl1, hcl2⟩ := (unhide HLR).sm (unhide HLV)
  have HLI := hide (unhide HLR).ints
  have HBW : Hid (Below w.heap.size w W1) := hide (bc (Below.refl w.heap.size w).drew (unhide HB1))
  have HV1 := hide ((unhide HV).bel (unhide HBW))
  have HT1 := hide ((unhide HTP).below (unhide HBW))
  have HO1 := hide ((unhide HRO).belo (unhide HBW))
  have HQL : Hid (w.heap.size ≤ ql) := hide hql1
  have hW1s : w.heap.size ≤ W1.heap.size := (unhide HBW).size
  obtain ⟨m, hm⟩ : ∃ m, cs.length = m := ⟨_, rfl⟩
  rw [hm] at hcl1 ⊢
  have HM := hide hm
  have hml : m ≤ 9223372036854775807 := by unfold maxLen at hcl2; omega
  have HTL := hide (unhide HT).1
  clear k0 k1 k2 k3 y0 y1 y2 y3 HLR HLV HB1 hm hql1 HC
  go_wp2_with fail
  go_loopw [9, 10] (fun z9 zz X => ∃ i : Nat, zz = .int .i64 (i : Int) ∧ i ≤ m ∧ z9 = .bool ((cs.take i).any fun c => decide (z < tp s.T c)) ∧ Same W1 X) (fun _ zz _ => m - (intOf zz).toNat)
  case atStart => exact ⟨0, rfl, Nat.zero_le _, rfl, Same.refl _⟩
  case round =>
    obtain ⟨i, rfl, hii, rfl, hs⟩ := hrel
    have HS := hide hs
    by_cases h3 : i < m
    · have l1 : (i : Int) < (m : Int) := by omega
      have l0 : (0 : Int) ≤ (i : Int) := Int.natCast_nonneg _
      have lz : decide ((i : Int) < (m : Int)) = true := decide_eq_true l1
      obtain ⟨ci, hci⟩ := get_some (unhide HM) h3
      have c1 := (unhide HLI) i _ (nI_at hci)
      have hcl : ci < W * H := (unhide HCL) ci (List.mem_of_getElem? hci)
      have c2 := (unhide HT1).cellAt (tp_at (T := s.T) (i := ci) (by rw [unhide HTL, unhide HN]; exact hcl))
      have c4 := (unhide HV1).cell (m := 4) rfl
      rw [Nat.zero_add] at c1
      rw [← hs.cell] at c1 c2 c4
      have HAT := hide (any_take (fun c => decide (z < tp s.T c)) hci)
      have q1 : (ci : Int) < (n : Int) := by rw [unhide HN]; omega
      have q0 : (0 : Int) ≤ (ci : Int) := Int.natCast_nonneg _
      obtain ⟨tk, htk⟩ : ∃ tk, ((cs.take i).any fun c => decide (z < tp s.T c)) = tk := ⟨_, rfl⟩
      rw [htk] at HAT ⊢
      generalize tp s.T ci = tt at *
      clear hs hci hcl htk
      cases tk with
      | true =>
        go_wp2_with fail
        go_quiet (fail)
        go_wp2_with fail
        go_roundw
        case rel => exact ⟨i + 1, by simp, h3, by rw [unhide HAT]; rfl, by repeat (first | exact unhide HS | refine Same.drew ?_ | refine Same.dnz ?_ _)⟩
        case measure => simp only [intOf]; omega
      | false =>
        by_cases hzt : z < tt
        · have d1 : decide (z < tt) = true := decide_eq_true hzt
          go_wp2_with fail
          go_quiet (fail)
          go_wp2_with fail
          go_roundw
          case rel => exact ⟨i + 1, by simp, h3, by rw [unhide HAT]; simp [hzt], by repeat (first | exact unhide HS | refine Same.drew ?_ | refine Same.dnz ?_ _)⟩
          case measure => simp only [intOf]; omega
        · have d1 : decide (z < tt) = false := decide_eq_false hzt
          go_wp2_with fail
          go_quiet (fail)
          go_wp2_with fail
          go_roundw
          case rel => exact ⟨i + 1, by simp, h3, by rw [unhide HAT]; simp [hzt], by repeat (first | exact unhide HS | refine Same.drew ?_ | refine Same.dnz ?_ _)⟩
          case measure => simp only [intOf]; omega
    · have lz : decide ((i : Int) < (m : Int)) = false := decide_eq_false (by omega)
      have HE : Hid (((cs.take i).any fun c => decide (z < tp s.T c)) = !decide (hi s.T cs ≤ z)) := hide (by rw [List.take_of_length_le (by rw [unhide HM]; omega)]; exact unhide HAH cs)
      have HSB : Hid (Below W1.heap.size W1 wr) := hide hs.bel
      have HV2 := hide ((unhide HV1).bel (unhide HSB))
      have HT2 := hide ((unhide HT1).below (unhide HSB))
      have HO2 := hide ((unhide HO1).belo (unhide HSB))
      have HLI2 := hide ((unhide HLI).below (unhide HSB) hql2)
      have HBW2 := hide (bc (unhide HBW) (unhide HSB))
      have HZ2 := hide ((unhide HZ).bel (unhide HBW2))
      have hql3 : ql < wr.heap.size := Nat.lt_of_lt_of_le hql2 (unhide HSB).size
      rw [unhide HE]
      clear hs HS HE HSB HV1 HT1 HO1 HLI HBW
      by_cases hh : hi s.T cs ≤ z
      · have HZE : Hid (zst W H r s (x, y, z) = s) := hide (by rw [unhide HZN, if_pos hh])
        rw [show (!decide (hi s.T cs ≤ z)) = false by simp [hh]]
        clear hh
        go_wp2_with fail
        exact bodyPost_ret (v := .tuple #[]) (by simp [results, Try.results43, go_sem]) rfl ⟨rfl, by rw [unhide HZE]; exact unhide HZ2, (unhide HBW2).mono (unhide HBS), (unhide HBW2).block gl hgl⟩
      · rw [show (!decide (hi s.T cs ≤ z)) = true by simp [hh]]
        have c6 := (unhide HV2).cell (m := 6) rfl
        by_cases ho : 2000 < 1 + 4 * s.ps.length
        · have o1 : decide ((2000 : Int) < ((1 + 4 * s.ps.length : Nat) : Int)) = true := decide_eq_true (by omega)
          have HZE : Hid (zst W H r s (x, y, z) = s) := hide (by rw [unhide HZN, if_neg hh, if_pos ho])
          clear hh
          generalize 1 + 4 * s.ps.length = M at *
          go_wp2_with fail
          exact bodyPost_ret (v := .tuple #[]) (by simp [results, Try.results43, go_sem]) rfl ⟨rfl, by rw [unhide HZE]; exact unhide HZ2, (unhide HBW2).mono (unhide HBS), (unhide HBW2).block gl hgl⟩
        · have o1 : decide ((2000 : Int) < ((1 + 4 * s.ps.length : Nat) : Int)) = false := decide_eq_false (by omega)
          have HZE : Hid (zst W H r s (x, y, z) = ⟨mins s.T cs z, s.ps ++ [(x, y, z)]⟩) := hide (by rw [unhide HZN, if_neg hh, if_neg ho])
          have HPL : Hid (1 + 4 * (s.ps ++ [(x, y, z)]).length = 1 + 4 * s.ps.length + 4) := hide (by simp; omega)
          have hM : 1 + 4 * s.ps.length ≤ 2000 := by omega
          generalize 1 + 4 * s.ps.length = M at *
          clear hh ho
          go_wp2_with fail
          generalize hWo : wr = W2 at *
          clear hWo c6
          go_loopw [11] (fun zz X => ∃ i : Nat, zz = .int .i64 (i : Int) ∧ i ≤ m ∧ Row X B 3 1 (.slice (some ⟨gt, 0, none⟩) n ct) n (mins s.T (cs.take i) z) ∧ But gt W2 X) (fun zz _ => m - (intOf zz).toNat)
          case atStart => exact ⟨0, rfl, Nat.zero_le _, unhide HT2, But.refl _ _⟩
          case round =>
            obtain ⟨i, rfl, hii, hro, hbu⟩ := hrel
            have HRi := hide hro
            have HBi := hide hbu
            have hqt : ql ≠ gt := by have := unhide HQL; omega
            by_cases h6 : i < m
            · have l1 : (i : Int) < (m : Int) := by omega
              have l0 : (0 : Int) ≤ (i : Int) := Int.natCast_nonneg _
              have lz : decide ((i : Int) < (m : Int)) = true := decide_eq_true l1
              obtain ⟨ci, hcie⟩ := get_some (unhide HM) h6
              have c1 := ((unhide HLI2).blk (hbu.block ql hqt)) i _ (nI_at hcie)
              rw [Nat.zero_add] at c1
              have hcl : ci < n := by rw [unhide HN]; exact (unhide HCL) ci (List.mem_of_getElem? hcie)
              have hol : (mins s.T (cs.take i) z).length = n := by rw [mins_len, unhide HTL]
              have c2 := hro.cellAt (tp_at (T := mins s.T (cs.take i) z) (i := ci) (by omega))
              have HMT := hide (mins_take s.T z hcie)
              have c4 := vb.cell (show vb wr gb 77 _ from (hbu.block gb e1).trans (unhide HV2)) (m := 4) rfl
              have fz := hro.frz
              have q1 : (ci : Int) < (n : Int) := by omega
              have q0 : (0 : Int) ≤ (ci : Int) := Int.natCast_nonneg _
              generalize tp (mins s.T (cs.take i) z) ci = tt at *
              clear hro hbu hcie hol
              go_wp2_with fail
              go_region
              go_wp2_with fail
              go_roundw
              case rel =>
                refine ⟨i + 1, by simp, h6, ?_, ?_⟩
                · rw [unhide HMT]
                  exact Row.set (w := wr.drew) (unhide HRi) ci (by omega) (min tt z)
                · exact But.setCell (unhide HBi).drew _ _
              case measure => simp only [intOf]; omega
            · have lz : decide ((i : Int) < (m : Int)) = false := decide_eq_false (by omega)
              have HE : Hid (mins s.T (cs.take i) z = mins s.T cs z) := hide (by rw [List.take_of_length_le (by rw [unhide HM]; omega)])
              have HV3 : Hid (vb wr gb 77 _) := hide ((hbu.block gb e1).trans (unhide HV2))
              have HO3 : Hid (Mvs wr B (.slice (some ⟨go, 0, none⟩) M oc) M (zcs s.ps s.ps.length)) := hide ((unhide HO2).kept (fun b hb => hbu.block b (by simp only [Value.ownBlock, Option.some.injEq] at hb; rw [← hb]; exact hnb'.2.1)))
              have HT3 : Hid (Row wr B 3 1 (.slice (some ⟨gt, 0, none⟩) n ct) n (mins s.T cs z)) := hide (by rw [← unhide HE]; exact hro)
              have HB3 : Hid (Below B w wr) := hide (((unhide HBW2).mono (unhide HBS)).trans (hbu.bel hB2))
              have HG3 : Hid (wr.heap[gl]? = w.heap[gl]?) := hide ((hbu.block gl e3).trans ((unhide HBW2).block gl hgl))
              have hws : W2.heap.size = wr.heap.size := hbu.size
              have hw2 := (unhide HBW2).size
              clear hro hbu HE HRi HBi
              go_wp2_with fail
              refine Go.Code.wp_mono (Only.to (fun _ _ h => h)) (st11 (B := B) (m := M) (oy := oy) (cs := zcs s.ps s.ps.length) hM (by omega) (by omega) (by simp only [Value.ownBlock, ne_eq, Option.some.injEq]; exact hnb'.1) ((unhide HV3).frozen 6) (hide ((unhide HV3).cell (m := 5) rfl)) (hide ((unhide HV3).cell (m := 6) rfl)) HO3 (fun sb nv W4 hA => ?_))
              have HA := hide hA
              have hown : (Value.slice (some ⟨go, 0, none⟩) M oc).ownBlock = some go := rfl
              have hgo9 : ∀ b, b ≠ go → (Value.slice (some ⟨go, 0, none⟩) M oc).ownBlock ≠ some b := fun b hb h => hb (by rw [hown] at h; exact (Option.some.inj h).symm)
              have HV4 := hide (vb.set (show vb W4 gb 77 _ from (hA.keep gb (by omega) (hgo9 gb hnb'.1.symm)).trans (unhide HV3)) 6 nv)
              have c5 := (unhide HV4).cell (m := 5) rfl
              have f5 := (unhide HV4).frozen
              clear hA
              go_wp2_with fail
              have hA := unhide HA
              have hnvb : ∀ g, nv.ownBlock = some g → g ≠ gb ∧ g ≠ gt ∧ g ≠ gl := by
                intro g hg
                rcases hA.new g hg with h | h
                · rw [hown] at h
                  cases h
                  exact hnb'
                · exact ⟨by omega, by omega, by omega⟩
              refine bodyPost_end (v := .tuple #[]) (by simp [results, Try.results43, go_sem]) rfl ⟨rfl, ?_, ?_, ?_⟩
              · rw [unhide HZE]
                refine ⟨⟨nv, ?_, ?_, hnvb⟩, ?_⟩
                · show vb _ gb 77 [.int .i64 (W : Int), .int .i64 (H : Int), .slice pu n pc, .int .i64 (r : Int), .slice (some ⟨gt, 0, none⟩) n ct, .int .i64 (zoy (s.ps ++ [(x, y, z)]) (s.ps ++ [(x, y, z)]).length), nv]
                  rw [(unhide HSN).2]
                  exact (unhide HV4).set 5 _
                · show Mvs _ B nv (1 + 4 * (s.ps ++ [(x, y, z)]).length) (zcs (s.ps ++ [(x, y, z)]) (s.ps ++ [(x, y, z)]).length)
                  rw [(unhide HSN).1, unhide HPL]
                  exact hA.row.kept (fun g hg => (Below.heap_setCell _ _ _ _ (hnvb g hg).1).trans (Below.heap_setCell _ _ _ _ (hnvb g hg).1))
                · have hT4 : Row W4 B 3 1 (.slice (some ⟨gt, 0, none⟩) n ct) n (mins s.T cs z) := (unhide HT3).kept' (fun g hg => by
                    simp only [Value.ownBlock, Option.some.injEq] at hg
                    subst hg
                    exact hA.keep gt (by omega) (hgo9 gt hnb'.2.1.symm))
                  exact hT4.kept' (fun g hg => by
                    simp only [Value.ownBlock, Option.some.injEq] at hg
                    subst hg
                    exact (Below.heap_setCell _ _ _ _ e1.symm).trans (Below.heap_setCell _ _ _ _ e1.symm))
              · exact Below.setCell (Below.setCell ((unhide HB3).trans hA.bel) (by show B ≤ gb; omega) _) (by show B ≤ gb; omega) _
              · exact ((Below.heap_setCell _ _ _ _ e2).trans (Below.heap_setCell _ _ _ _ e2)).trans ((hA.keep gl (by omega) (hgo9 gl hnb'.2.2.symm)).trans (unhide HG3))
end Go.Proofs.Ytjhldjojkaphkaa

namespace Go.Proofs.Ytjhldjojkaphkaa
open Go.ChangeShapes Go.WideShapes Go.ChangeAt Go.RowKit
set_option linter.unusedVariables false
set_option linter.unusedSimpArgs false

theorem own_nil {W : World} {B p t k : Nat} (h : W.heap[p]? = some (.cells #[] t)) (hB : B ≤ p) : W.ownsRow B t k (.slice (some ⟨p, 0, none⟩) 0 0) 0 (([] : List Int).map (Value.int .i64)) :=
  ⟨by simp, .inr ⟨p, 0, #[], rfl, hB, h, Nat.le_refl _, by decide, by simp, by simp⟩⟩
theorem fd_cells {W : World} {g po n c : Nat} {L : List Int} (h : Fd W g po n c L) : ∀ (j : Nat) (u : Value), (L.map (Value.int .i64))[j]? = some u → W.cell? ((⟨g, po, none⟩ : Addr).add j) = some u := by
  intro j u hj
  rw [List.getElem?_map] at hj
  obtain ⟨x, hx, rfl⟩ := Option.map_eq_some_iff.1 hj
  rw [add_none]
  exact h.ints j x hx
noncomputable def reg10 (id : Nat) : Go.Code := match Try.f10.body with | some c => (regOf id c).getD .skip | none => .skip
set_option maxHeartbeats 4000000 in
set_option maxRecDepth 100000 in
theorem rg4 {s0 s1 s3 s6 s7 s8 s9 s10 s11 s12 s13 s14 s15 s16 s17 s18 s19 s20 s21 s22 s23 s24 s25 s26 s27 s28 s29 s30 s31 s32 s33 s34 s35 s36 s37 s38 s39 s40 s41 s42 s43 s44 s45 s46 s47 s48 s49 s50 s51 s52 s53 s54 s55 s56 s57 s58 s59 s60 s61 s62 s63 s64 s65 s66 s67 s68 s69 s70 s71 s72 s73 s74 s75 s76 s77 s78 s79 s80 s81 s82 s83 s84 s85 s86 s87 s88 s89 s90 s91 s92 s93 s94 s95 s96 s97 s98 s99 s100 s101 s102 s103 s104 s105 s106 s107 s108 s109 s110 s111 s112 s113 s114 s115 s116 s117 s118 s119 s120 s121 s122 s123 s124 s125 s126 s127 s128 s129 s130 s131 s132 s133 s134 s135 s136 s137 s138 s139 s140 s141 s142 s143 s144 s145 s146 s147 s148 s149 s150 s151 s152 s153 : Value} {b4 b5 W H n c g po g2 po2 c2 : Nat} {r : Nat} {A_ : List Int} {V : World} {K_ : Act → World → Prop} (hn1 : 1 ≤ n) (hn : n ≤ 576)
    (H4 : Hid (vb V b4 25 [.int .i64 (W : Int), .int .i64 (H : Int), .slice (some ⟨g, po, none⟩) n c])) (H5 : Hid (vb V b5 25 [.int .i64 (W : Int), .int .i64 (H : Int), .slice (some ⟨g2, po2, none⟩) n c2])) (HL : Hid (A_.length = n)) (HF : Hid (Fd V g po n c A_))
    (hQ : ∀ (eb gt ct ob gb : Nat) (X : World), Below V.heap.size V X → Row X V.heap.size 3 1 (.slice (some ⟨gt, 0, none⟩) n ct) n A_ → V.heap.size ≤ ob → vb X ob 65 (mvC true 0 0 24) → gt ≠ ob → vb X gb 77 [.int .i64 (W : Int), .int .i64 (H : Int), .slice (some ⟨g2, po2, none⟩) n c2, .int .i64 (r : Int), .slice (some ⟨gt, 0, none⟩) n ct, .int .i64 0, .slice (some ⟨ob, 0, none⟩) 1 1] → V.heap.size ≤ gb → gb ≠ ob → gb ≠ gt → K_ { tmps := #[s0, s1, .int .i64 (r : Int), s3, .pointer (some ⟨b4, 0, none⟩), .pointer (some ⟨b5, 0, none⟩), s6, s7, s8, s9, s10, .pointer (some ⟨gb, 0, none⟩), s12, s13, s14, s15, s16, s17, s18, s19, s20, s21, s22, s23, s24, s25, s26, s27, s28, s29, s30, s31, s32, s33, s34, s35, s36, s37, s38, .agg #[.int .i64 (W : Int), .int .i64 (H : Int), .slice (some ⟨g2, po2, none⟩) n c2], .int .i64 (r : Int), .slice (some ⟨eb, 0, none⟩) 0 0, .pointer (some ⟨b4, 2, none⟩), .slice (some ⟨g, po, none⟩) n c, .slice (some ⟨gt, 0, none⟩) n ct, .agg #[.bool true, .int .i64 0, .int .i64 0, .int .i64 24], .slice (some ⟨ob, 0, none⟩) 1 1, .agg #[.int .i64 (W : Int), .int .i64 (H : Int), .slice (some ⟨g2, po2, none⟩) n c2, .int .i64 (r : Int), .slice (some ⟨gt, 0, none⟩) n ct, .int .i64 0, .slice (some ⟨ob, 0, none⟩) 1 1], .pointer (some ⟨gb, 0, none⟩), s49, s50, s51, s52, s53, s54, s55, s56, s57, s58, s59, s60, s61, s62, s63, s64, s65, s66, s67, s68, s69, s70, s71, s72, s73, s74, s75, s76, s77, s78, s79, s80, s81, s82, s83, s84, s85, s86, s87, s88, s89, s90, s91, s92, s93, s94, s95, s96, s97, s98, s99, s100, s101, s102, s103, s104, s105, s106, s107, s108, s109, s110, s111, s112, s113, s114, s115, s116, s117, s118, s119, s120, s121, s122, s123, s124, s125, s126, s127, s128, s129, s130, s131, s132, s133, s134, s135, s136, s137, s138, s139, s140, s141, s142, s143, s144, s145, s146, s147, s148, s149, s150, s151, s152, s153], defers := [] } X) :
    Go.Code.wp Try.prog (reg10 4) (Only K_) { tmps := #[s0, s1, .int .i64 (r : Int), s3, .pointer (some ⟨b4, 0, none⟩), .pointer (some ⟨b5, 0, none⟩), s6, s7, s8, s9, s10, s11, s12, s13, s14, s15, s16, s17, s18, s19, s20, s21, s22, s23, s24, s25, s26, s27, s28, s29, s30, s31, s32, s33, s34, s35, s36, s37, s38, s39, s40, s41, s42, s43, s44, s45, s46, s47, s48, s49, s50, s51, s52, s53, s54, s55, s56, s57, s58, s59, s60, s61, s62, s63, s64, s65, s66, s67, s68, s69, s70, s71, s72, s73, s74, s75, s76, s77, s78, s79, s80, s81, s82, s83, s84, s85, s86, s87, s88, s89, s90, s91, s92, s93, s94, s95, s96, s97, s98, s99, s100, s101, s102, s103, s104, s105, s106, s107, s108, s109, s110, s111, s112, s113, s114, s115, s116, s117, s118, s119, s120, s121, s122, s123, s124, s125, s126, s127, s128, s129, s130, s131, s132, s133, s134, s135, s136, s137, s138, s139, s140, s141, s142, s143, s144, s145, s146, s147, s148, s149, s150, s151, s152, s153], defers := [] } V := by
  have HQ := hide hQ
  clear hQ
  obtain ⟨iP, hi1, hy0, hy1, hy2⟩ := info_parts int_info3
  conv => arg 2; whnf
  refine wp_region_inv (fun Lb A X => ∃ (u0 u1 u2 u3 u4 u5 u6 u7 u8 u9 u10 : Bool) (eb : Nat) (gt : Nat) (ct : Nat) (ob : Nat) (gb : Nat), Lb = #[u0, u1, u2, u3, u4, u5, u6, u7, u8, u9, u10] ∧ A = ({ tmps := #[s0, s1, .int .i64 (r : Int), s3, .pointer (some ⟨b4, 0, none⟩), .pointer (some ⟨b5, 0, none⟩), s6, s7, s8, s9, s10, (bif u10 then .pointer (some ⟨gb, 0, none⟩) else s11), s12, s13, s14, s15, s16, s17, s18, s19, s20, s21, s22, s23, s24, s25, s26, s27, s28, s29, s30, s31, s32, s33, s34, s35, s36, s37, s38, (bif u0 then .agg #[.int .i64 (W : Int), .int .i64 (H : Int), .slice (some ⟨g2, po2, none⟩) n c2] else s39), (bif u1 then .int .i64 (r : Int) else s40), (bif u2 then .slice (some ⟨eb, 0, none⟩) 0 0 else s41), (bif u3 then .pointer (some ⟨b4, 2, none⟩) else s42), (bif u4 then .slice (some ⟨g, po, none⟩) n c else s43), (bif u5 then .slice (some ⟨gt, 0, none⟩) n ct else s44), (bif u6 then .agg #[.bool true, .int .i64 0, .int .i64 0, .int .i64 24] else s45), (bif u7 then .slice (some ⟨ob, 0, none⟩) 1 1 else s46), (bif u8 then .agg #[.int .i64 (W : Int), .int .i64 (H : Int), .slice (some ⟨g2, po2, none⟩) n c2, .int .i64 (r : Int), .slice (some ⟨gt, 0, none⟩) n ct, .int .i64 0, .slice (some ⟨ob, 0, none⟩) 1 1] else s47), (bif u9 then .pointer (some ⟨gb, 0, none⟩) else s48), s49, s50, s51, s52, s53, s54, s55, s56, s57, s58, s59, s60, s61, s62, s63, s64, s65, s66, s67, s68, s69, s70, s71, s72, s73, s74, s75, s76, s77, s78, s79, s80, s81, s82, s83, s84, s85, s86, s87, s88, s89, s90, s91, s92, s93, s94, s95, s96, s97, s98, s99, s100, s101, s102, s103, s104, s105, s106, s107, s108, s109, s110, s111, s112, s113, s114, s115, s116, s117, s118, s119, s120, s121, s122, s123, s124, s125, s126, s127, s128, s129, s130, s131, s132, s133, s134, s135, s136, s137, s138, s139, s140, s141, s142, s143, s144, s145, s146, s147, s148, s149, s150, s151, s152, s153], defers := [] } : Act) ∧ Below V.heap.size V X ∧ (u2 = true → u5 = false → V.heap.size ≤ eb ∧ X.heap[eb]? = some (.cells #[] 3)) ∧ (u5 = true → Row X V.heap.size 3 1 (.slice (some ⟨gt, 0, none⟩) n ct) n A_) ∧ (u7 = true → V.heap.size ≤ ob ∧ vb X ob 65 (mvC true 0 0 24)) ∧ (u2 = true → u5 = false → u7 = true → eb ≠ ob) ∧ (u5 = true → u7 = true → gt ≠ ob) ∧ (u9 = true → vb X gb 77 [.int .i64 (W : Int), .int .i64 (H : Int), .slice (some ⟨g2, po2, none⟩) n c2, .int .i64 (r : Int), .slice (some ⟨gt, 0, none⟩) n ct, .int .i64 0, .slice (some ⟨ob, 0, none⟩) 1 1] ∧ V.heap.size ≤ gb ∧ gb ≠ ob ∧ gb ≠ gt) ∧ (u4 = true → u3 = true) ∧ (u5 = true → u2 = true ∧ u4 = true) ∧ (u7 = true → u6 = true) ∧ (u8 = true → u0 = true ∧ u1 = true ∧ u5 = true ∧ u7 = true) ∧ (u9 = true → u8 = true) ∧ (u10 = true → u0 = true ∧ u1 = true ∧ u2 = true ∧ u3 = true ∧ u4 = true ∧ u5 = true ∧ u6 = true ∧ u7 = true ∧ u8 = true ∧ u9 = true)) (by kernel_rfl) (by kernel_rfl) ?h0 ?hstep ?hend
  case h0 =>
    exact ⟨false, false, false, false, false, false, false, false, false, false, false, 0, 0, 0, 0, 0, rfl, rfl, Below.drew (Below.refl _ _), (fun h => nomatch h), (fun h => nomatch h), (fun h => nomatch h), (fun h => nomatch h), (fun h => nomatch h), (fun h => nomatch h), (fun h => nomatch h), (fun h => nomatch h), (fun h => nomatch h), (fun h => nomatch h), (fun h => nomatch h), (fun h => nomatch h)⟩
  case hstep =>
    rintro Lb A X ⟨u0, u1, u2, u3, u4, u5, u6, u7, u8, u9, u10, eb, gt, ct, ob, gb, rfl, rfl, kB, kE, kT, kO, kN, kM, kG, c4, c5, c7, c8, c9, kF⟩
    refine ⟨?_, ?_, ?_, ?_, ?_, ?_, ?_, ?_, ?_, ?_, ?_, trivial⟩
    · intro h0 hd K hK
      have z : u0 = false := h0
      have z10_ : u10 = false := by
        cases hu : u10 with
        | false => rfl
        | true => exact nomatch z.symm.trans ((kF hu).1)
      have H_kB := hide kB
      have H_kE := hide kE
      have H_kT := hide kT
      have H_kO := hide kO
      have H_kN := hide kN
      have H_kM := hide kM
      have H_kG := hide kG
      have H_c4 := hide c4
      have H_c5 := hide c5
      have H_c7 := hide c7
      have H_c8 := hide c8
      have H_c9 := hide c9
      have H_kF := hide kF
      clear kB kE kT kO kN kM kG c4 c5 c7 c8 c9 kF
      subst z10_
      subst z
      clear h0 hd
      rw [if_pos (by rfl)]
      have cc0 := keep1 (unhide H_kB) ((unhide H5).cell (m := 0) rfl)
      have cc1 := keep1 (unhide H_kB) ((unhide H5).cell (m := 1) rfl)
      have cc2 := keep1 (unhide H_kB) ((unhide H5).cell (m := 2) rfl)
      go_simp
      exact unhide hK _ _ ⟨true, u1, u2, u3, u4, u5, u6, u7, u8, u9, false, eb, gt, ct, ob, gb, rfl, rfl, unhide H_kB, unhide H_kE, unhide H_kT, unhide H_kO, unhide H_kN, unhide H_kM, unhide H_kG, unhide H_c4, unhide H_c5, unhide H_c7, (fun h => ⟨rfl, (unhide H_c8 h).2.1, (unhide H_c8 h).2.2.1, (unhide H_c8 h).2.2.2⟩), unhide H_c9, (fun h => nomatch h)⟩
    · intro h0 hd K hK
      have z : u1 = false := h0
      have z10_ : u10 = false := by
        cases hu : u10 with
        | false => rfl
        | true => exact nomatch z.symm.trans ((kF hu).2.1)
      have H_kB := hide kB
      have H_kE := hide kE
      have H_kT := hide kT
      have H_kO := hide kO
      have H_kN := hide kN
      have H_kM := hide kM
      have H_kG := hide kG
      have H_c4 := hide c4
      have H_c5 := hide c5
      have H_c7 := hide c7
      have H_c8 := hide c8
      have H_c9 := hide c9
      have H_kF := hide kF
      clear kB kE kT kO kN kM kG c4 c5 c7 c8 c9 kF
      subst z10_
      subst z
      clear h0 hd
      rw [if_pos (by rfl)]
      go_simp
      exact unhide hK _ _ ⟨u0, true, u2, u3, u4, u5, u6, u7, u8, u9, false, eb, gt, ct, ob, gb, rfl, rfl, unhide H_kB, unhide H_kE, unhide H_kT, unhide H_kO, unhide H_kN, unhide H_kM, unhide H_kG, unhide H_c4, unhide H_c5, unhide H_c7, (fun h => ⟨(unhide H_c8 h).1, rfl, (unhide H_c8 h).2.2.1, (unhide H_c8 h).2.2.2⟩), unhide H_c9, (fun h => nomatch h)⟩
    · intro h0 hd K hK
      have z : u2 = false := h0
      have z10_ : u10 = false := by
        cases hu : u10 with
        | false => rfl
        | true => exact nomatch z.symm.trans ((kF hu).2.2.1)
      have z5_ : u5 = false := by
        cases hu : u5 with
        | false => rfl
        | true => exact nomatch z.symm.trans ((c5 hu).1)
      have z9_ : u9 = false := by
        cases hu : u9 with
        | false => rfl
        | true => exact nomatch z.symm.trans ((c5 (c8 (c9 hu)).2.2.1).1)
      have H_kB := hide kB
      have H_kE := hide kE
      have H_kT := hide kT
      have H_kO := hide kO
      have H_kN := hide kN
      have H_kM := hide kM
      have H_kG := hide kG
      have H_c4 := hide c4
      have H_c5 := hide c5
      have H_c7 := hide c7
      have H_c8 := hide c8
      have H_c9 := hide c9
      have H_kF := hide kF
      clear kB kE kT kO kN kM kG c4 c5 c7 c8 c9 kF
      subst z10_
      subst z5_
      subst z9_
      subst z
      clear h0 hd
      rw [if_pos (by rfl)]
      go_simp
      exact unhide hK _ _ ⟨u0, u1, true, u3, u4, false, u6, u7, u8, false, false, X.heap.size, gt, ct, ob, gb, rfl, rfl, (ba (unhide H_kB) _), (fun _ _ => ⟨(unhide H_kB).size, heap_alloc_new X _⟩), (fun h => nomatch h), (fun h => ⟨(unhide H_kO h).1, (unhide H_kO h).2.bel (ba (Below.refl _ _) _)⟩), (fun _ _ h => by have := (unhide H_kO h).2.lt; omega), (fun h => nomatch h), (fun h => nomatch h), unhide H_c4, (fun h => nomatch h), unhide H_c7, unhide H_c8, (fun h => nomatch h), (fun h => nomatch h)⟩
    · intro h0 hd K hK
      have z : u3 = false := h0
      have z10_ : u10 = false := by
        cases hu : u10 with
        | false => rfl
        | true => exact nomatch z.symm.trans ((kF hu).2.2.2.1)
      have H_kB := hide kB
      have H_kE := hide kE
      have H_kT := hide kT
      have H_kO := hide kO
      have H_kN := hide kN
      have H_kM := hide kM
      have H_kG := hide kG
      have H_c4 := hide c4
      have H_c5 := hide c5
      have H_c7 := hide c7
      have H_c8 := hide c8
      have H_c9 := hide c9
      have H_kF := hide kF
      clear kB kE kT kO kN kM kG c4 c5 c7 c8 c9 kF
      subst z10_
      subst z
      clear h0 hd
      rw [if_pos (by rfl)]
      go_simp
      exact unhide hK _ _ ⟨u0, u1, u2, true, u4, u5, u6, u7, u8, u9, false, eb, gt, ct, ob, gb, rfl, rfl, unhide H_kB, unhide H_kE, unhide H_kT, unhide H_kO, unhide H_kN, unhide H_kM, unhide H_kG, (fun h => rfl), unhide H_c5, unhide H_c7, unhide H_c8, unhide H_c9, (fun h => nomatch h)⟩
    · intro h0 hd K hK
      have z : u4 = false := h0
      have z10_ : u10 = false := by
        cases hu : u10 with
        | false => rfl
        | true => exact nomatch z.symm.trans ((kF hu).2.2.2.2.1)
      have zd : u3 = true := by
        simp [Region.binds] at hd
        simp [hd]
      have H_kB := hide kB
      have H_kE := hide kE
      have H_kT := hide kT
      have H_kO := hide kO
      have H_kN := hide kN
      have H_kM := hide kM
      have H_kG := hide kG
      have H_c4 := hide c4
      have H_c5 := hide c5
      have H_c7 := hide c7
      have H_c8 := hide c8
      have H_c9 := hide c9
      have H_kF := hide kF
      clear kB kE kT kO kN kM kG c4 c5 c7 c8 c9 kF
      obtain ⟨rfl⟩ := zd
      subst z10_
      subst z
      clear h0 hd
      rw [if_pos (by rfl)]
      have cc2 := keep1 (unhide H_kB) ((unhide H4).cell (m := 2) rfl)
      go_simp
      exact unhide hK _ _ ⟨u0, u1, u2, true, true, u5, u6, u7, u8, u9, false, eb, gt, ct, ob, gb, rfl, rfl, unhide H_kB, unhide H_kE, unhide H_kT, unhide H_kO, unhide H_kN, unhide H_kM, unhide H_kG, (fun _ => rfl), (fun h => ⟨(unhide H_c5 h).1, rfl⟩), unhide H_c7, unhide H_c8, unhide H_c9, (fun h => nomatch h)⟩
    · intro h0 hd K hK
      have z : u5 = false := h0
      have z10_ : u10 = false := by
        cases hu : u10 with
        | false => rfl
        | true => exact nomatch z.symm.trans ((kF hu).2.2.2.2.2.1)
      have z8_ : u8 = false := by
        cases hu : u8 with
        | false => rfl
        | true => exact nomatch z.symm.trans ((c8 hu).2.2.1)
      have z9_ : u9 = false := by
        cases hu : u9 with
        | false => rfl
        | true => exact nomatch z.symm.trans ((c8 (c9 hu)).2.2.1)
      have zd : u2 = true ∧ u4 = true := by
        simp [Region.binds] at hd
        simp [hd]
      have H_kB := hide kB
      have H_kE := hide kE
      have H_kT := hide kT
      have H_kO := hide kO
      have H_kN := hide kN
      have H_kM := hide kM
      have H_kG := hide kG
      have H_c4 := hide c4
      have H_c5 := hide c5
      have H_c7 := hide c7
      have H_c8 := hide c8
      have H_c9 := hide c9
      have H_kF := hide kF
      clear kB kE kT kO kN kM kG c4 c5 c7 c8 c9 kF
      obtain ⟨rfl, rfl⟩ := zd
      subst z10_
      subst z8_
      subst z9_
      subst z
      clear h0 hd
      rw [if_pos (by rfl)]
      obtain ⟨hp1, hp2⟩ := unhide H_kE rfl rfl
      refine wp_append_new X (.tmp 41) (.tmp 43) 23 (by rfl) V.heap.size 3 iP _ 1 8 Try.underlying23 hi1 hy0 hy1 hy2 rfl (by omega) (.slice (some ⟨eb, 0, none⟩) 0 0) 0 (([] : List Int).map (Value.int .i64)) (by rfl) (own_nil hp2 hp1) ⟨g, po, none⟩ n c (A_.map (Value.int .i64)) (by rfl) (by simp [unhide HL]) (fd_cells ((unhide HF).bel (unhide H_kB))) ints_one (by unfold maxLen; omega) (by omega) (unhide H_kB).size ?_
      intro v1' w1 hown' hgrow hvn hnb
      have R := own_first (wr := X) (news := A_) (Below.refl _ _) (unhide H_kB).size hp1 hown' hgrow
      have hne : v1' ≠ .slice none 0 0 := fun e => by have := (hvn.1 e).1; cases this
      obtain ⟨gt1, ct1, hv1, hq1, hq2, _, _⟩ := R.1.sm hne
      subst hv1
      have hnn : ∀ b, u7 = true → b = ob → gt1 ≠ b := by
          intro b h7 hb e
          subst hb
          rcases hnb gt1 rfl with h | h
          · simp only [Value.ownBlock, Option.some.injEq] at h
            exact unhide H_kN rfl rfl h7 (h.trans e)
          · have := (unhide H_kO h7).2.lt
            omega
      have hko : u7 = true → V.heap.size ≤ ob ∧ vb w1 ob 65 (mvC true 0 0 24) := by
          intro h7
          obtain ⟨a1, a2⟩ := unhide H_kO h7
          refine ⟨a1, (hgrow.block ob a2.lt (fun e => ?_)).trans a2⟩
          simp only [Value.ownBlock, Option.some.injEq] at e
          exact unhide H_kN rfl rfl h7 e.symm
      exact unhide hK _ _ ⟨u0, u1, true, u3, true, true, u6, u7, false, false, false, eb, gt1, ct1, ob, gb, rfl, rfl, ((unhide H_kB).trans R.2), (fun _ h => nomatch h), (fun _ => R.1), hko, (fun _ h => nomatch h), (fun _ h => hnn ob h rfl), (fun h => nomatch h), unhide H_c4, (fun _ => ⟨rfl, rfl⟩), unhide H_c7, (fun h => nomatch h), (fun h => nomatch h), (fun h => nomatch h)⟩
    · intro h0 hd K hK
      have z : u6 = false := h0
      have z10_ : u10 = false := by
        cases hu : u10 with
        | false => rfl
        | true => exact nomatch z.symm.trans ((kF hu).2.2.2.2.2.2.1)
      have H_kB := hide kB
      have H_kE := hide kE
      have H_kT := hide kT
      have H_kO := hide kO
      have H_kN := hide kN
      have H_kM := hide kM
      have H_kG := hide kG
      have H_c4 := hide c4
      have H_c5 := hide c5
      have H_c7 := hide c7
      have H_c8 := hide c8
      have H_c9 := hide c9
      have H_kF := hide kF
      clear kB kE kT kO kN kM kG c4 c5 c7 c8 c9 kF
      subst z10_
      subst z
      clear h0 hd
      rw [if_pos (by rfl)]
      go_simp
      exact unhide hK _ _ ⟨u0, u1, u2, u3, u4, u5, true, u7, u8, u9, false, eb, gt, ct, ob, gb, rfl, rfl, unhide H_kB, unhide H_kE, unhide H_kT, unhide H_kO, unhide H_kN, unhide H_kM, unhide H_kG, unhide H_c4, unhide H_c5, (fun h => rfl), unhide H_c8, unhide H_c9, (fun h => nomatch h)⟩
    · intro h0 hd K hK
      have z : u7 = false := h0
      have z10_ : u10 = false := by
        cases hu : u10 with
        | false => rfl
        | true => exact nomatch z.symm.trans ((kF hu).2.2.2.2.2.2.2.1)
      have z8_ : u8 = false := by
        cases hu : u8 with
        | false => rfl
        | true => exact nomatch z.symm.trans ((c8 hu).2.2.2)
      have z9_ : u9 = false := by
        cases hu : u9 with
        | false => rfl
        | true => exact nomatch z.symm.trans ((c8 (c9 hu)).2.2.2)
      have zd : u6 = true := by
        simp [Region.binds] at hd
        simp [hd]
      have H_kB := hide kB
      have H_kE := hide kE
      have H_kT := hide kT
      have H_kO := hide kO
      have H_kN := hide kN
      have H_kM := hide kM
      have H_kG := hide kG
      have H_c4 := hide c4
      have H_c5 := hide c5
      have H_c7 := hide c7
      have H_c8 := hide c8
      have H_c9 := hide c9
      have H_kF := hide kF
      clear kB kE kT kO kN kM kG c4 c5 c7 c8 c9 kF
      obtain ⟨rfl⟩ := zd
      subst z10_
      subst z8_
      subst z9_
      subst z
      clear h0 hd
      rw [if_pos (by rfl)]
      go_simp
      exact unhide hK _ _ ⟨u0, u1, u2, u3, u4, u5, true, true, false, false, false, eb, gt, ct, X.heap.size, gb, rfl, rfl, (ba (unhide H_kB) _), (fun h1 h2 => ⟨(unhide H_kE h1 h2).1, (Below.heap_alloc _ _ _ (Array.getElem?_eq_some_iff.1 (unhide H_kE h1 h2).2).1).trans (unhide H_kE h1 h2).2⟩), (fun h => (unhide H_kT h).below (ba (Below.refl _ _) _)), (fun _ => ⟨(unhide H_kB).size, vb_new X 65 (mvC true 0 0 24) _ rfl⟩), (fun h1 h2 _ => by have := (Array.getElem?_eq_some_iff.1 (unhide H_kE h1 h2).2).1; omega), (fun h _ => by have := (World.ownsRow.lt (unhide H_kT h) gt rfl).2; omega), (fun h => nomatch h), unhide H_c4, unhide H_c5, (fun _ => rfl), (fun h => nomatch h), (fun h => nomatch h), (fun h => nomatch h)⟩
    · intro h0 hd K hK
      have z : u8 = false := h0
      have z10_ : u10 = false := by
        cases hu : u10 with
        | false => rfl
        | true => exact nomatch z.symm.trans ((kF hu).2.2.2.2.2.2.2.2.1)
      have zd : u0 = true ∧ u1 = true ∧ u5 = true ∧ u7 = true := by
        simp [Region.binds] at hd
        simp [hd]
      have H_kB := hide kB
      have H_kE := hide kE
      have H_kT := hide kT
      have H_kO := hide kO
      have H_kN := hide kN
      have H_kM := hide kM
      have H_kG := hide kG
      have H_c4 := hide c4
      have H_c5 := hide c5
      have H_c7 := hide c7
      have H_c8 := hide c8
      have H_c9 := hide c9
      have H_kF := hide kF
      clear kB kE kT kO kN kM kG c4 c5 c7 c8 c9 kF
      obtain ⟨rfl, rfl, rfl, rfl⟩ := zd
      subst z10_
      subst z
      clear h0 hd
      rw [if_pos (by rfl)]
      go_simp
      exact unhide hK _ _ ⟨true, true, u2, u3, u4, true, u6, true, true, u9, false, eb, gt, ct, ob, gb, rfl, rfl, unhide H_kB, unhide H_kE, unhide H_kT, unhide H_kO, unhide H_kN, unhide H_kM, unhide H_kG, unhide H_c4, unhide H_c5, unhide H_c7, (fun _ => ⟨rfl, rfl, rfl, rfl⟩), (fun h => rfl), (fun h => nomatch h)⟩
    · intro h0 hd K hK
      have z : u9 = false := h0
      have z10_ : u10 = false := by
        cases hu : u10 with
        | false => rfl
        | true => exact nomatch z.symm.trans ((kF hu).2.2.2.2.2.2.2.2.2)
      have zd : u8 = true := by
        simp [Region.binds] at hd
        simp [hd]
      have H_kB := hide kB
      have H_kE := hide kE
      have H_kT := hide kT
      have H_kO := hide kO
      have H_kN := hide kN
      have H_kM := hide kM
      have H_kG := hide kG
      have H_c4 := hide c4
      have H_c5 := hide c5
      have H_c7 := hide c7
      have H_c8 := hide c8
      have H_c9 := hide c9
      have H_kF := hide kF
      clear kB kE kT kO kN kM kG c4 c5 c7 c8 c9 kF
      obtain ⟨rfl⟩ := zd
      subst z10_
      subst z
      obtain ⟨e0_, e1_, e5_, e7_⟩ := unhide H_c8 rfl
      subst e0_; subst e1_; subst e5_; subst e7_
      clear h0 hd
      rw [if_pos (by rfl)]
      go_simp
      exact unhide hK _ _ ⟨true, true, u2, u3, u4, true, u6, true, true, true, false, eb, gt, ct, ob, X.heap.size, rfl, rfl, (ba (unhide H_kB) _), (fun _ h => nomatch h), (fun h => (unhide H_kT h).below (ba (Below.refl _ _) _)), (fun h => ⟨(unhide H_kO h).1, (unhide H_kO h).2.bel (ba (Below.refl _ _) _)⟩), unhide H_kN, unhide H_kM, (fun _ => ⟨vb_new X 77 _ _ rfl, (unhide H_kB).size, (by have := (unhide H_kO rfl).2.lt; omega), (by have := (World.ownsRow.lt (unhide H_kT rfl) gt rfl).2; omega)⟩), unhide H_c4, unhide H_c5, unhide H_c7, unhide H_c8, (fun _ => rfl), (fun h => nomatch h)⟩
    · intro h0 hd K hK
      have z : u10 = false := h0
      have zd : u9 = true ∧ u0 = true ∧ u1 = true ∧ u2 = true ∧ u3 = true ∧ u4 = true ∧ u5 = true ∧ u6 = true ∧ u7 = true ∧ u8 = true := by
        simp [Region.binds] at hd
        simp_all
      have H_kB := hide kB
      have H_kE := hide kE
      have H_kT := hide kT
      have H_kO := hide kO
      have H_kN := hide kN
      have H_kM := hide kM
      have H_kG := hide kG
      have H_c4 := hide c4
      have H_c5 := hide c5
      have H_c7 := hide c7
      have H_c8 := hide c8
      have H_c9 := hide c9
      have H_kF := hide kF
      clear kB kE kT kO kN kM kG c4 c5 c7 c8 c9 kF
      obtain ⟨rfl, rfl, rfl, rfl, rfl, rfl, rfl, rfl, rfl, rfl⟩ := zd
      subst z
      clear h0 hd
      rw [if_pos (by rfl)]
      go_simp
      exact unhide hK _ _ ⟨true, true, true, true, true, true, true, true, true, true, true, eb, gt, ct, ob, gb, rfl, rfl, unhide H_kB, unhide H_kE, unhide H_kT, unhide H_kO, unhide H_kN, unhide H_kM, unhide H_kG, (fun _ => rfl), (fun _ => ⟨rfl, rfl⟩), (fun _ => rfl), (fun _ => ⟨rfl, rfl, rfl, rfl⟩), (fun _ => rfl), (fun _ => ⟨rfl, rfl, rfl, rfl, rfl, rfl, rfl, rfl, rfl, rfl⟩)⟩
  case hend =>
    rintro Lb A X ⟨u0, u1, u2, u3, u4, u5, u6, u7, u8, u9, u10, eb, gt, ct, ob, gb, rfl, rfl, kB, kE, kT, kO, kN, kM, kG, c4, c5, c7, c8, c9, kF⟩ hL
    have hl : u0 = true ∧ u1 = true ∧ u2 = true ∧ u3 = true ∧ u4 = true ∧ u5 = true ∧ u6 = true ∧ u7 = true ∧ u8 = true ∧ u9 = true ∧ u10 = true := by
      have h2 := congrArg Array.toList hL
      simpa [List.replicate] using h2
    obtain ⟨rfl, rfl, rfl, rfl, rfl, rfl, rfl, rfl, rfl, rfl, rfl⟩ := hl
    exact unhide HQ eb gt ct ob gb X kB (kT rfl) (kO rfl).1 (kO rfl).2 (kM rfl rfl) (kG rfl).1 (kG rfl).2.1 (kG rfl).2.2.1 (kG rfl).2.2.2
end Go.Proofs.Ytjhldjojkaphkaa

namespace Go.Proofs.Ytjhldjojkaphkaa
open Go.ChangeShapes Go.WideShapes Go.ChangeAt Go.RowKit
set_option linter.unusedVariables false
set_option linter.unusedSimpArgs false

theorem cnd_z {W H s : Nat} {L : List Int} (hL : ∀ i, 0 ≤ tp L i ∧ tp L i ≤ 24) {c : Nat} {p : Nat × Nat × Int} (h : cnd W H s L c = some p) : 0 ≤ p.2.2 ∧ p.2.2 ≤ 24 := by
  unfold cnd at h
  split at h
  · unfold cn1 at h
    split at h
    · simp only [Option.some.injEq] at h
      subst h
      exact lvl_bd _ _
    · cases h
  · unfold cn2 at h
    split at h
    · cases h
    · simp only [Option.some.injEq] at h
      subst h
      exact hL _
theorem zrun_ok {W H r s n : Nat} {A L : List Int} (hA : A.length = n ∧ ∀ i, 0 ≤ tp A i ∧ tp A i ≤ 24) (hL : ∀ i, 0 ≤ tp L i ∧ tp L i ≤ 24) : ∀ c, ((zrun W H r s A L c).T.length = n ∧ ∀ i, 0 ≤ tp (zrun W H r s A L c).T i ∧ tp (zrun W H r s A L c).T i ≤ 24) ∧ 1 + 4 * (zrun W H r s A L c).ps.length ≤ 2004
  | 0 => ⟨hA, by simp [zrun]⟩
  | c + 1 => by
    obtain ⟨h1, h2⟩ := zrun_ok (W := W) (H := H) (r := r) (s := s) hA hL c
    rw [zrun]
    cases h : cnd W H s L c with
    | none => exact ⟨h1, h2⟩
    | some p => exact ⟨zst_ok (cnd_z hL h).1 h1, zst_few h2⟩
theorem zr1 {W H r s : Nat} {A L : List Int} {a y i x : Nat} (ha : a < lvn s) (hy : y < H) (hi : i < W) (hx : x = if y % 2 = 1 then W - 1 - i else i) :
    zrun W H r s A L (a * (W * H) + (y * W + (i + 1))) = if tp L (y * W + x) ≤ lvl s a then zst W H r (zrun W H r s A L (a * (W * H) + (y * W + i))) (x, y, lvl s a) else zrun W H r s A L (a * (W * H) + (y * W + i)) := by
  have e1 : a * (W * H) + (y * W + (i + 1)) = (a * (W * H) + (y * W + i)) + 1 := by omega
  obtain ⟨e2, e3⟩ := yx hi y
  rw [e1, zrun, cnd_1 L ha (ix_lt hi hy)]
  unfold cn1
  have e4 : tfx W (y * W + i) = x := by unfold tfx; rw [e2, e3, hx]
  rw [e3, e4]
  split <;> rfl
theorem zr2 {W H r s : Nat} {A L : List Int} {y x : Nat} (hy : y < H) (hx : x < W) :
    zrun W H r s A L (lvn s * (W * H) + (y * W + (x + 1))) = if islv s (tp L (y * W + x)) then zrun W H r s A L (lvn s * (W * H) + (y * W + x)) else zst W H r (zrun W H r s A L (lvn s * (W * H) + (y * W + x))) (x, y, tp L (y * W + x)) := by
  have e1 : lvn s * (W * H) + (y * W + (x + 1)) = (lvn s * (W * H) + (y * W + x)) + 1 := by omega
  obtain ⟨e2, e3⟩ := yx hx y
  rw [e1, zrun, cnd_2 L]
  unfold cn2
  rw [e2, e3]
  split <;> rfl
theorem lvls_get {s k : Nat} (h : k < lvn s) : (lvls s)[k]? = some (lvl s k) := by simp [lvls, h]
theorem islv_any (s : Nat) (z : Int) : islv s z = (lvls s).any fun l => l == z := by
  unfold islv lvls
  rw [List.any_map]
  rfl
theorem any_takeI (f : Int → Bool) {cs : List Int} {i : Nat} {c : Int} (h : cs[i]? = some c) : (cs.take (i + 1)).any f = ((cs.take i).any f || f c) := by
  rw [List.take_add_one, h]
  simp
/-- what a call leaves as it was -/
structure Zk (B gl : Nat) (V X : World) : Prop where
  bel : Below B V X
  lv : X.heap[gl]? = V.heap[gl]?
theorem Zk.refl (B gl : Nat) (V : World) : Zk B gl V V := ⟨Below.refl _ _, rfl⟩
theorem Zk.step {B gl : Nat} {V X Y : World} (h : Zk B gl V X) (hb : Below B X Y) (hl : Y.heap[gl]? = X.heap[gl]?) : Zk B gl V Y := ⟨h.bel.trans hb, hl.trans h.lv⟩
theorem Zk.drew {B gl : Nat} {V X : World} (h : Zk B gl V X) : Zk B gl V X.drew := ⟨h.bel.drew, h.lv⟩
theorem Zk.dn {B gl : Nat} {V X : World} (h : Zk B gl V X) (n : Nat) : Zk B gl V (X.drewN n) := ⟨⟨h.bel.os, h.bel.tape, h.bel.output, h.bel.size, h.bel.block⟩, h.lv⟩
end Go.Proofs.Ytjhldjojkaphkaa

namespace Go.Proofs.Ytjhldjojkaphkaa
open Go.ChangeShapes Go.WideShapes Go.ChangeAt Go.RowKit
set_option linter.unusedVariables false
set_option linter.unusedSimpArgs false

set_option maxHeartbeats 2000000 in
set_option maxRecDepth 100000 in
theorem lvM_any (s : Nat) (w : World) (hs1 : 1 ≤ s) (hs : s ≤ 24) :
    Calls Try.prog 42 #[.int .i64 (s : Int)] w fun e w' => (∃ v, e = .returned v ∧ v ≠ .slice none 0 0 ∧ Row w' w.heap.size 3 1 v (lvn s) (lvls s)) ∧ Below w.heap.size w w' := by
  obtain ⟨iP, hi1, hy0, hy1, hy2⟩ := info_parts int_info3
  have HIF := hide (fun k => lvn_iff (s := s) (k := k) hs1)
  have HLE := hide (lvn_le (s := s) hs1)
  have HB := hide (ba (Below.refl w.heap.size w) (.cells #[] 3))
  have HR0 : Hid (Row (w.alloc (.cells #[] 3)) w.heap.size 3 1 (.slice (some ⟨w.heap.size, 0, none⟩) 0 0) 0 []) := hide (row_made _ 3 _ 1 (by simp) _ (by simp))
  go_enter Try.func42, Try.ntmps42
  go_wp2_with fail
  go_loopw [3, 4] (fun z3 z X => ∃ k : Nat, z = .int .i64 (24 - (s : Int) * ((k : Int) + 1)) ∧ k + 1 ≤ lvn s ∧ z3 ≠ .slice none 0 0 ∧ Row X w.heap.size 3 1 z3 k ((List.range k).map (lvl s)) ∧ Below w.heap.size w X) (fun _ z _ => (intOf z).toNat)
  case atStart => exact ⟨0, by simp, by have := (unhide HIF 0).2 (by simp); omega, by simp, unhide HR0, unhide HB⟩
  case round =>
    obtain ⟨k, rfl, hk, hz3, hro, hw⟩ := hrel
    have HZ3 := hide hz3
    have HRO := hide hro
    have HW := hide hw
    have HSZ : Hid (w.heap.size ≤ wr.heap.size) := hide hw.size
    have hk24 := unhide HLE
    have hkn : (s : Int) * ((k : Int) + 1) = ((s * (k + 1) : Nat) : Int) := by simp
    have HKN : Hid ((k + 1 < lvn s) ↔ s * (k + 1) < 24) := hide (unhide HIF (k + 1))
    have hsk : s * (k + 1) ≤ 24 * 24 := Nat.mul_le_mul hs (by omega)
    have HLV : Hid (lvl s k = max 0 (24 - (s : Int) * ((k : Int) + 1))) := hide rfl
    have HS1 : Hid ((s : Int) * (((k + 1 : Nat) : Int) + 1) = (s : Int) * ((k : Int) + 1) + (s : Int)) := hide (by rw [Int.mul_add, Int.mul_add, Int.natCast_add, Int.mul_add]; simp)
    rw [hkn] at HLV HS1 ⊢
    obtain ⟨q, hq⟩ : ∃ q, s * (k + 1) = q := ⟨_, rfl⟩
    rw [hq] at HKN hsk HLV HS1 ⊢
    clear hz3 hro hw hkn hq
    by_cases h : q < 24
    · have g1 : (24 : Int) - (q : Int) > 0 := by omega
      have g2 : decide ((0 : Int) < (24 : Int) - (q : Int)) = true := decide_eq_true (by omega)
      have HLQ : Hid (lvl s k = 24 - (q : Int)) := hide (by rw [unhide HLV]; omega)
      have hk2 : k + 1 < lvn s := (unhide HKN).2 h
      go_wp2_with (at_builtin; refine unhide ?_)
      refine hide ?_
      refine wpList_append_own _ rfl _ _ 23 rfl w.heap.size 3 iP _ 1 8 Try.underlying23 hi1 hy0 hy1 hy2 rfl (by decide) _ k (((List.range k).map (lvl s)).map (Value.int .i64)) rfl ((unhide HRO).alloc _) _ 1 1 ([24 - (q : Int)].map (Value.int .i64)) rfl rfl (by first | exact news_cells _ _ rfl | exact news_cells _ _ (by simp)) ints_one (by unfold maxLen; omega) (by omega) (by first | (have := unhide HSZ; omega) | (have := unhide HSZ; simp; omega)) ?_
      intro v1 w1 hown' hgrow hvn1
      have R1 := own_more (wr := wr) (news := [24 - (q : Int)]) (by repeat (first | exact Below.refl _ _ | refine Below.alloc ?_ (by first | exact unhide HSZ | (simp; exact unhide HSZ)) _ | refine Below.drew ?_)) (by first | exact Nat.le_trans (unhide HSZ) (by simp) | (have := unhide HSZ; simp; omega) | (have := unhide HSZ; omega)) (unhide HRO) hown' hgrow
      have HR6 := hide R1.1
      have HN6 : Hid (v1 ≠ .slice none 0 0) := hide (fun e => by have := (hvn1.1 e).2; omega)
      have HW6 := hide ((unhide HW).trans R1.2)
      clear hown' hgrow hvn1 R1
      go_wp2_with fail
      go_roundw
      case rel =>
        refine ⟨k + 1, ?_, hk2, unhide HN6, ?_, unhide HW6⟩
        · rw [unhide HS1]; simp only [Value.int.injEq, true_and]; omega
        · rw [List.range_succ, List.map_append, List.map_cons, List.map_nil, unhide HLQ]; exact unhide HR6
      case measure => simp only [intOf]; omega
    · have g2 : decide ((0 : Int) < (24 : Int) - (q : Int)) = false := decide_eq_false (by omega)
      have HLQ : Hid (lvl s k = 0) := hide (by rw [unhide HLV]; omega)
      have hk2 : ¬ k + 1 < lvn s := fun h2 => h ((unhide HKN).1 h2)
      go_wp2_with (at_builtin; refine unhide ?_)
      refine hide ?_
      refine wpList_append_own _ rfl _ _ 23 rfl w.heap.size 3 iP _ 1 8 Try.underlying23 hi1 hy0 hy1 hy2 rfl (by decide) _ k (((List.range k).map (lvl s)).map (Value.int .i64)) rfl ((unhide HRO).alloc _) _ 1 1 ([(0 : Int)].map (Value.int .i64)) rfl rfl (by first | exact news_cells _ _ rfl | exact news_cells _ _ (by simp)) ints_one (by unfold maxLen; omega) (by omega) (by first | (have := unhide HSZ; omega) | (have := unhide HSZ; simp; omega)) ?_
      intro v1 w1 hown' hgrow hvn1
      have R1 := own_more (wr := wr) (news := [(0 : Int)]) (by repeat (first | exact Below.refl _ _ | refine Below.alloc ?_ (by first | exact unhide HSZ | (simp; exact unhide HSZ)) _ | refine Below.drew ?_)) (by first | exact Nat.le_trans (unhide HSZ) (by simp) | (have := unhide HSZ; simp; omega) | (have := unhide HSZ; omega)) (unhide HRO) hown' hgrow
      have HR6 := hide R1.1
      have HN6 : Hid (v1 ≠ .slice none 0 0) := hide (fun e => by have := (hvn1.1 e).2; omega)
      have HW6 := hide ((unhide HW).trans R1.2)
      clear hown' hgrow hvn1 R1
      go_wp2_with fail
      go_ret
      refine ⟨⟨_, rfl, unhide HN6, ?_⟩, unhide HW6⟩
      have e1 : lvn s = k + 1 := by omega
      unfold lvls
      rw [e1, List.range_succ, List.map_append, List.map_cons, List.map_nil, unhide HLQ]
      exact unhide HR6
end Go.Proofs.Ytjhldjojkaphkaa

namespace Go.Proofs.Ytjhldjojkaphkaa
open Go.ChangeShapes Go.WideShapes Go.ChangeAt Go.RowKit
set_option linter.unusedVariables false
set_option linter.unusedSimpArgs false

theorem boxs (w : World) (W H : Int) (u : Option Addr) (n c : Nat) (W' H' : Int) (u' : Option Addr) (n' c' : Nat) :
    Below w.heap.size w ((w.alloc (.cells #[.int .i64 W, .int .i64 H, .slice u n c] 25)).alloc (.cells #[.int .i64 W', .int .i64 H', .slice u' n' c'] 25)) := ba (ba (Below.refl _ _) _) _
set_option maxHeartbeats 1000000 in
theorem rfP_any (W H : Int) (u : Option Addr) (p po n c : Nat) (A : List Int) (W' H' : Int) (u' : Option Addr) (p' po' n' c' : Nat) (B : List Int) (w : World)
    (hl : A.length = n) (hn : n ≤ 9223372036854775807) (hu : Its w u p po A) (hl' : B.length = n') (hn' : n' ≤ 9223372036854775807) (hu' : Its w u' p' po' B) :
    Calls Try.prog 50 #[fldV W H u n c, fldV W' H' u' n' c'] w fun e w' => e = .returned (.bool (pairB W H A W' H' B)) ∧ Below w.heap.size w w' := by
  have HS := hide (pairB_split W H A W' H' B)
  have HB := hide (boxs w W H u n c W' H' u' n' c')
  have HA := hide (fun X (hX : Below w.heap.size w X) => fokP_any W H u p po n c A X hl hn (hu.bel hX))
  have HC := hide (fun X (hX : Below w.heap.size w X) => fokP_any W' H' u' p' po' n' c' B X hl' hn' (hu'.bel hX))
  have hv := (vb_new2 w 25 [.int .i64 W', .int .i64 H', .slice u' n' c'] (.cells #[.int .i64 W, .int .i64 H, .slice u n c] 25))
  have hv0 := (vb_new1 w 25 [.int .i64 W, .int .i64 H, .slice u n c] (.cells #[.int .i64 W', .int .i64 H', .slice u' n' c'] 25))
  have HV := hide hv
  have HV0 := hide hv0
  clear hl hl' hu hu' hv hv0
  unfold fldV at *
  generalize fokB W H A = ba at *
  generalize fokB W' H' B = bb at *
  go_enter Try.func50, Try.ntmps50
  go_wp2_with fail
  refine (unhide HA _ (unhide HB)).mono ?_
  rintro e W1 ⟨rfl, hb1⟩
  have v1 := (unhide HV).bel hb1
  have k0 := v1.cell (m := 0) rfl
  have k1 := v1.cell (m := 1) rfl
  have k2 := v1.cell (m := 2) rfl
  have HV1 := hide v1
  have HV01 := hide ((unhide HV0).bel hb1)
  have HB1 := hide (bc (unhide HB) hb1)
  clear hb1 v1
  cases ba with
  | false =>
    go_wp2_with fail
    go_ret
    exact ⟨by rw [unhide HS]; first | done | rfl | simp, unhide HB1⟩
  | true =>
    go_wp2_with fail
    refine (unhide HC _ (unhide HB1)).mono ?_
    rintro e W2 ⟨rfl, hb2⟩
    have v1 := (unhide HV1).bel hb2
    have j0 := v1.cell (m := 0) rfl
    have j1 := v1.cell (m := 1) rfl
    have v2 := (unhide HV01).bel hb2
    have i0 := v2.cell (m := 0) rfl
    have i1 := v2.cell (m := 1) rfl
    have HB2 := hide (bc (unhide HB1) hb2)
    clear hb2 v1 v2 k0 k1 k2
    cases bb with
    | false =>
      go_wp2_with fail
      go_ret
      exact ⟨by rw [unhide HS]; first | done | rfl | simp, unhide HB2⟩
    | true =>
      by_cases e1 : W = W'
      · have t1 : (W == W') = true := by simp [e1]
        have HE1 := hide e1
        clear e1
        by_cases e2 : H = H'
        · have t2 : (H == H') = true := by simp [e2]
          have HE2 := hide e2
          clear e2
          go_wp2_with fail
          go_ret
          exact ⟨by rw [unhide HS, decide_eq_true (unhide HE1), decide_eq_true (unhide HE2)]; first | done | rfl | simp, unhide HB2⟩
        · have t2 : (H == H') = false := by simp [e2]
          have HE2 := hide e2
          clear e2
          go_wp2_with fail
          go_ret
          exact ⟨by rw [unhide HS, decide_eq_false (unhide HE2)]; first | done | rfl | simp, unhide HB2⟩
      · have t1 : (W == W') = false := by simp [e1]
        have HE1 := hide e1
        clear e1
        go_wp2_with fail
        go_ret
        exact ⟨by rw [unhide HS, decide_eq_false (unhide HE1)]; first | done | rfl | simp, unhide HB2⟩
set_option maxHeartbeats 2000000 in
theorem rsP_any (W H : Int) (u : Option Addr) (p po n c : Nat) (A : List Int) (W' H' : Int) (u' : Option Addr) (p' po' n' c' : Nat) (B : List Int) (w : World)
    (hl : A.length = n) (hn : n ≤ 9223372036854775807) (hu : Its w u p po A) (hl' : B.length = n') (hn' : n' ≤ 9223372036854775807) (hu' : Its w u' p' po' B) :
    Calls Try.prog 14 #[fldV W H u n c, fldV W' H' u' n' c'] w fun e w' => e = .returned (.tuple #[.int .i64 (restS W H A W' H' B), .int .i64 (restC W H A W' H' B)]) ∧ Below w.heap.size w w' := by
  have HB := hide (boxs w W H u n c W' H' u' n' c')
  have HF := hide (fun X (hX : Below w.heap.size w X) => rfP_any W H u p po n c A W' H' u' p' po' n' c' B X hl hn (hu.bel hX) hl' hn' (hu'.bel hX))
  have HV := hide (vb_new2 w 25 [.int .i64 W', .int .i64 H', .slice u' n' c'] (.cells #[.int .i64 W, .int .i64 H, .slice u n c] 25))
  have HV0 := hide (vb_new1 w 25 [.int .i64 W, .int .i64 H, .slice u n c] (.cells #[.int .i64 W', .int .i64 H', .slice u' n' c'] 25))
  have HUA0 := hide hu
  have HUB0 := hide hu'
  have HLA := hide hl
  have HLB := hide hl'
  have n0 : (0 : Int) ≤ (n : Int) := Int.natCast_nonneg _
  by_cases hp : FPair W H A W' H' B
  · rw [show pairB W H A W' H' B = true from decide_eq_true hp] at HF
    have HP := hide hp
    have HRB := hide (rsum_bound hp.a.tops_tp hp.b.tops_tp)
    have HLE : Hid (n' = n) := hide (by have := hp.len; omega)
    have HNS : Hid (n ≤ 576) := hide (by have := hp.a.small; omega)
    have HTA := hide hp.a.tops_tp
    have HTB := hide hp.b.tops_tp
    have HRS : Hid (restS W H A W' H' B = rsum A B n) := hide (by unfold restS; rw [if_pos hp, hl])
    have HRC : Hid (restC W H A W' H' B = 0) := hide (by unfold restC; rw [if_pos hp])
    clear hp hl hl' hu hu'
    unfold fldV at *
    go_enter Try.func14, Try.ntmps14
    go_wp2_with fail
    refine (unhide HF _ (unhide HB)).mono ?_
    rintro e W0 ⟨rfl, hb1⟩
    have HVB := hide ((unhide HV).bel hb1)
    have v1 := (unhide HV0).bel hb1
    have k2 := v1.cell (m := 2) rfl
    have HVA := hide v1
    have HBB := hide (bc (unhide HB) hb1)
    have HUA := hide ((unhide HUA0).bel (unhide HBB))
    have HUB := hide ((unhide HUB0).bel (unhide HBB))
    clear hb1 v1
    go_wp2_with fail
    skip
    go_loopw [6, 16] (fun zs z X => ∃ i : Nat, z = .int .i64 (i : Int) ∧ i ≤ n ∧ zs = .int .i64 (rsum A B i) ∧ Below W0.heap.size W0 X) (fun _ z _ => n - (intOf z).toNat)
    case atStart => exact ⟨0, rfl, Nat.zero_le _, rfl, Below.refl _ _⟩
    case round =>
      obtain ⟨i, rfl, hi, rfl, hw⟩ := hrel
      have v1 := (unhide HVA).bel hw
      have k2 := v1.cell (m := 2) rfl
      have v2 := (unhide HVB).bel hw
      have l2 := v2.cell (m := 2) rfl
      have HWW := hide hw
      clear hw v1 v2
      by_cases h : i < n
      · have i1 : (i : Int) < (n : Int) := by omega
        have i0 : (0 : Int) ≤ (i : Int) := Int.natCast_nonneg _
        have iz : decide ((i : Int) < (n : Int)) = true := decide_eq_true i1
        have hle := unhide HLE
        have i2 : (i : Int) < (n' : Int) := by omega
        have hxa := tp_at (T := A) (i := i) (by have := unhide HLA; omega)
        have hxb := tp_at (T := B) (i := i) (by have := unhide HLB; omega)
        obtain ⟨rfl, pw, c0⟩ := ((unhide HUA).bel (unhide HWW)).at hxa
        obtain ⟨rfl, qw, d0⟩ := ((unhide HUB).bel (unhide HWW)).at hxb
        have HRN : Hid (rsum A B (i + 1) = rsum A B i + max (tp A i - tp B i) 0) := hide rfl
        have hra := (unhide HTA) i
        have hrb := (unhide HTB) i
        have hrr := (unhide HRB) i
        have hns := unhide HNS
        generalize tp A i = x at *
        generalize tp B i = y at *
        generalize rsum A B i = rs at *
        have w1 : IntKind.i64.wrap (x - y) = x - y := Go.IntWalk.i64_in _ ⟨by omega, by omega⟩
        have w2 : IntKind.i64.wrap (rs + max (x - y) 0) = rs + max (x - y) 0 := Go.IntWalk.i64_in _ ⟨by omega, by omega⟩
        have w3 : IntKind.i64.wrap (rs + max 0 (x - y)) = rs + max 0 (x - y) := Go.IntWalk.i64_in _ ⟨by omega, by omega⟩
        clear pw qw hxa hxb hle
        go_wp2_with fail

        go_roundw
        case rel => exact ⟨i + 1, by simp, h, by rw [unhide HRN]; first | done | rfl | (congr 1; omega) | (simp only [Value.int.injEq, true_and]; omega), by repeat (first | exact unhide HWW | refine bel_dn' ?_ _ | refine Below.drew ?_)⟩
        case measure => simp only [intOf]; omega
      · have iz : decide ((i : Int) < (n : Int)) = false := decide_eq_false (by omega)
        obtain rfl : i = n := by omega
        go_wp2_with fail
        refine bodyPost_ret (v := .tuple #[.int .i64 (rsum A B i), .int .i64 0]) (by simp [results, Try.results14, go_sem]) rfl ⟨by rw [unhide HRS, unhide HRC], bc (unhide HBB) (unhide HWW)⟩
  · rw [show pairB W H A W' H' B = false from decide_eq_false hp] at HF
    have HRS : Hid (restS W H A W' H' B = 0) := hide (by unfold restS; rw [if_neg hp])
    have HRC : Hid (restC W H A W' H' B = 1) := hide (by unfold restC; rw [if_neg hp])
    clear hp hl hl' hu hu'
    unfold fldV at *
    go_enter Try.func14, Try.ntmps14
    go_wp2_with fail
    refine (unhide HF _ (unhide HB)).mono ?_
    rintro e W0 ⟨rfl, hb1⟩
    have HBB := hide (bc (unhide HB) hb1)
    clear hb1
    go_wp2_with fail
    exact bodyPost_ret (v := .tuple #[.int .i64 0, .int .i64 1]) (by simp [results, Try.results14, go_sem]) rfl ⟨by rw [unhide HRS, unhide HRC], unhide HBB⟩
end Go.Proofs.Ytjhldjojkaphkaa

namespace Go.Proofs.Ytjhldjojkaphkaa
open Go.ChangeShapes Go.WideShapes Go.ChangeAt Go.RowKit
set_option linter.unusedVariables false
set_option linter.unusedSimpArgs false

/-- no column of the part is above the stock's -/
def under (S P : List Int) : Bool := (List.range P.length).all fun i => decide (tp P i ≤ tp S i)
def stB (W H : Int) (S : List Int) (W' H' : Int) (P : List Int) : Bool := pairB W H S W' H' P && under S P
theorem Same.dnx {a w : World} (h : Same a w) (n : Nat) : Same a (w.drewN n) := ⟨h.os, h.tape, h.output, h.heap⟩
theorem under_iff {S P : List Int} : under S P = true ↔ ∀ i, i < P.length → tp P i ≤ tp S i := by
  unfold under
  rw [List.all_eq_true]
  simp
theorem under_no {S P : List Int} {i : Nat} (hi : i < P.length) (h : ¬ tp P i ≤ tp S i) : under S P = false := by
  rw [Bool.eq_false_iff]
  intro hu
  exact h (under_iff.1 hu i hi)
set_option maxHeartbeats 2000000 in
theorem stP_any (W H : Int) (u : Option Addr) (p po n c : Nat) (A : List Int) (W' H' : Int) (u' : Option Addr) (p' po' n' c' : Nat) (B : List Int) (w : World)
    (hl : A.length = n) (hn : n ≤ 9223372036854775807) (hu : Its w u p po A) (hl' : B.length = n') (hn' : n' ≤ 9223372036854775807) (hu' : Its w u' p' po' B) :
    Calls Try.prog 34 #[fldV W H u n c, fldV W' H' u' n' c'] w fun e w' => e = .returned (.bool (stB W H A W' H' B)) ∧ Below w.heap.size w w' := by
  have HB := hide (boxs w W H u n c W' H' u' n' c')
  have HF := hide (fun X (hX : Below w.heap.size w X) => rfP_any W H u p po n c A W' H' u' p' po' n' c' B X hl hn (hu.bel hX) hl' hn' (hu'.bel hX))
  have HV := hide (vb_new2 w 25 [.int .i64 W', .int .i64 H', .slice u' n' c'] (.cells #[.int .i64 W, .int .i64 H, .slice u n c] 25))
  have HV0 := hide (vb_new1 w 25 [.int .i64 W, .int .i64 H, .slice u n c] (.cells #[.int .i64 W', .int .i64 H', .slice u' n' c'] 25))
  have HUA0 := hide hu
  have HUB0 := hide hu'
  have HLA := hide hl
  have HLB := hide hl'
  have n0 : (0 : Int) ≤ (n' : Int) := Int.natCast_nonneg _
  by_cases hp : FPair W H A W' H' B
  · rw [show pairB W H A W' H' B = true from decide_eq_true hp] at HF
    have HSE : Hid (stB W H A W' H' B = under A B) := hide (by unfold stB; rw [show pairB W H A W' H' B = true from decide_eq_true hp, Bool.true_and])
    have HLE : Hid (n' = n) := hide (by have := hp.len; omega)
    have HNS : Hid (n ≤ 576) := hide (by have := hp.a.small; omega)
    clear hp hl hl' hu hu'
    unfold fldV at *
    go_enter Try.func34, Try.ntmps34
    go_wp2_with fail
    refine (unhide HF _ (unhide HB)).mono ?_
    rintro e W0 ⟨rfl, hb1⟩
    have v1 := (unhide HV).bel hb1
    have l2 := v1.cell (m := 2) rfl
    have HVB := hide v1
    have HVA := hide ((unhide HV0).bel hb1)
    have HBB := hide (bc (unhide HB) hb1)
    have HUA := hide ((unhide HUA0).bel (unhide HBB))
    have HUB := hide ((unhide HUB0).bel (unhide HBB))
    have hns : n' ≤ 576 := by have := unhide HNS; have := unhide HLE; omega
    clear hb1 v1
    go_wp2_with fail
    go_loopw [14] (fun z X => ∃ i : Nat, z = .int .i64 (i : Int) ∧ i ≤ n' ∧ (∀ j, j < i → tp B j ≤ tp A j) ∧ Same W0 X) (fun z _ => n' - (intOf z).toNat)
    case atStart => exact ⟨0, rfl, Nat.zero_le _, fun j hj => by omega, Same.refl _⟩
    case round =>
      obtain ⟨i, rfl, hi, hall, hw⟩ := hrel
      have HAL := hide hall
      have k2 := (unhide HVA).cell (m := 2) rfl
      rw [← hw.cell] at k2
      by_cases h : i < n'
      · have i1 : (i : Int) < (n' : Int) := by omega
        have i0 : (0 : Int) ≤ (i : Int) := Int.natCast_nonneg _
        have iz : decide ((i : Int) < (n' : Int)) = true := decide_eq_true i1
        have i2 : (i : Int) < (n : Int) := by have := unhide HLE; omega
        have hxa := tp_at (T := A) (i := i) (by have := unhide HLA; omega)
        have hxb := tp_at (T := B) (i := i) (by have := unhide HLB; omega)
        obtain ⟨rfl, pw, c0⟩ := (unhide HUA).at hxa
        obtain ⟨rfl, qw, d0⟩ := (unhide HUB).at hxb
        rw [← hw.cell] at c0 d0
        have HW := hide hw
        clear pw qw hxa hxb hw hall l2
        by_cases hlt : tp A i < tp B i
        · have HU : Hid (under A B = false) := hide (under_no (S := A) (P := B) (i := i) (by have := unhide HLB; omega) (by omega))
          generalize tp A i = x at *
          generalize tp B i = y at *
          have t1 := decide_eq_true hlt
          go_wp2_with fail
          first | go_quiet (fail) | skip
          go_wp2_with fail
          go_ret
          exact ⟨by rw [unhide HSE, unhide HU]; first | done | rfl, by repeat (first | exact bc (unhide HBB) (unhide HW).bel | refine bel_dn' ?_ _ | refine Below.drew ?_)⟩
        · have HNX : Hid (∀ j, j < i + 1 → tp B j ≤ tp A j) := hide (fun j hj => by
            by_cases e : j = i
            · subst e; omega
            · exact (unhide HAL) j (by omega))
          generalize tp A i = x at *
          generalize tp B i = y at *
          have t1 := decide_eq_false hlt
          go_wp2_with fail
          first | go_quiet (fail) | skip
          go_wp2_with fail
          go_roundw
          case rel => exact ⟨i + 1, by simp, h, unhide HNX, by repeat (first | exact unhide HW | refine Same.dnx ?_ _ | refine Same.drew ?_)⟩
          case measure => simp only [intOf]; omega
      · have iz : decide ((i : Int) < (n' : Int)) = false := decide_eq_false (by omega)
        have HU : Hid (under A B = true) := hide (under_iff.2 (fun j hj => (unhide HAL) j (by have := unhide HLB; omega)))
        have HW := hide hw
        clear hw hall
        go_wp2_with fail
        go_ret
        exact ⟨by rw [unhide HSE, unhide HU]; first | done | rfl, bc (unhide HBB) (unhide HW).bel⟩
  · rw [show pairB W H A W' H' B = false from decide_eq_false hp] at HF
    have HSE : Hid (stB W H A W' H' B = false) := hide (by unfold stB; rw [show pairB W H A W' H' B = false from decide_eq_false hp, Bool.false_and])
    clear hp hl hl' hu hu'
    unfold fldV at *
    go_enter Try.func34, Try.ntmps34
    go_wp2_with fail
    refine (unhide HF _ (unhide HB)).mono ?_
    rintro e W0 ⟨rfl, hb1⟩
    have HBB := hide (bc (unhide HB) hb1)
    clear hb1
    go_wp2_with fail
    go_ret
    exact ⟨by rw [unhide HSE]; first | done | rfl, unhide HBB⟩
end Go.Proofs.Ytjhldjojkaphkaa

namespace Go.Proofs.Ytjhldjojkaphkaa
open Go.ChangeShapes Go.WideShapes Go.ChangeAt Go.RowKit
set_option linter.unusedVariables false
set_option linter.unusedSimpArgs false

set_option maxHeartbeats 2000000 in
theorem prM_any (R W H : Int) (u : Option Addr) (p po n c : Nat) (A : List Int) (W' H' : Int) (u' : Option Addr) (p' po' n' c' : Nat) (B : List Int) (w : World)
    (hl : A.length = n) (hn : n ≤ 9223372036854775807) (hu : Its w u p po A) (hl' : B.length = n') (hn' : n' ≤ 9223372036854775807) (hu' : Its w u' p' po' B) :
    Calls Try.prog 33 #[fldV W H u n c, fldV W' H' u' n' c', .int .i64 R] w fun e w' => e = .returned (.bool (stB W H A W' H' B && (decide (0 ≤ R) && decide (R ≤ 3)))) ∧ Below w.heap.size w w' := by
  have HB := hide (boxs w W H u n c W' H' u' n' c')
  have HA := hide (fun X (hX : Below w.heap.size w X) => fokM_any W H u p po n c A X hl hn (hu.bel hX))
  have HC := hide (fun X (hX : Below w.heap.size w X) => fokM_any W' H' u' p' po' n' c' B X hl' hn' (hu'.bel hX))
  have HTL := hide (fun X => tlM_any R X)
  have HV := hide (vb_new2 w 25 [.int .i64 W', .int .i64 H', .slice u' n' c'] (.cells #[.int .i64 W, .int .i64 H, .slice u n c] 25))
  have HV0 := hide (vb_new1 w 25 [.int .i64 W, .int .i64 H, .slice u n c] (.cells #[.int .i64 W', .int .i64 H', .slice u' n' c'] 25))
  have HUA0 := hide hu
  have HUB0 := hide hu'
  have HLA := hide hl
  have HLB := hide hl'
  have n0 : (0 : Int) ≤ (n' : Int) := Int.natCast_nonneg _
  by_cases hp : FPair W H A W' H' B
  · rw [show fokB W H A = true from decide_eq_true hp.a] at HA
    rw [show fokB W' H' B = true from decide_eq_true hp.b] at HC
    have t1 : (W != W') = false := by simp [hp.w]
    have t2 : (H != H') = false := by simp [hp.h]
    have HSB : Hid (stB W H A W' H' B = under A B) := hide (by unfold stB; rw [show pairB W H A W' H' B = true from decide_eq_true hp, Bool.true_and])
    have HLE : Hid (n' = n) := hide (by have := hp.len; omega)
    have HNS : Hid (n ≤ 576) := hide (by have := hp.a.small; omega)
    have hns : n' ≤ 576 := by have := unhide HNS; have := unhide HLE; omega
    clear hp hl hl' hu hu'
    unfold fldV at *
    generalize (decide (0 ≤ R) && decide (R ≤ 3)) = rb at *
    go_enter Try.func33, Try.ntmps33
    go_wp2_with fail
    refine (unhide HA _ (unhide HB)).mono ?_
    rintro e W1 ⟨rfl, hb1⟩
    have v1 := (unhide HV).bel hb1
    have k0 := v1.cell (m := 0) rfl
    have k1 := v1.cell (m := 1) rfl
    have k2 := v1.cell (m := 2) rfl
    have HV1 := hide v1
    have HV01 := hide ((unhide HV0).bel hb1)
    have HB1 := hide (bc (unhide HB) hb1)
    clear hb1 v1
    go_wp2_with fail
    refine (unhide HC _ (unhide HB1)).mono ?_
    rintro e W0 ⟨rfl, hb2⟩
    have v1 := (unhide HV1).bel hb2
    have j0 := v1.cell (m := 0) rfl
    have j1 := v1.cell (m := 1) rfl
    have v2 := (unhide HV01).bel hb2
    have i0 := v2.cell (m := 0) rfl
    have i1 := v2.cell (m := 1) rfl
    have HVB := hide v1
    have HVA := hide v2
    have HBB := hide (bc (unhide HB1) hb2)
    have HUA := hide ((unhide HUA0).bel (unhide HBB))
    have HUB := hide ((unhide HUB0).bel (unhide HBB))
    clear hb2 v1 v2 k0 k1 k2
    go_wp2_with fail
    refine (unhide HTL _).mono ?_
    rintro e W0' ⟨rfl, rfl⟩
    cases rb with
    | false =>
      have HSE : Hid ((stB W H A W' H' B && false) = false) := hide (by simp)
      go_wp2_with fail
      go_ret
      exact ⟨by rw [unhide HSE]; first | done | rfl, unhide HBB⟩
    | true =>
    have HSE : Hid ((stB W H A W' H' B && true) = under A B) := hide (by rw [unhide HSB, Bool.and_true])
    go_wp2_with fail
    clear j0 j1 i0 i1
    generalize hW9 : W0' = W0 at *
    clear hW9
    go_loopw [7] (fun z X => ∃ i : Nat, z = .int .i64 (i : Int) ∧ i ≤ n' ∧ (∀ j, j < i → tp B j ≤ tp A j) ∧ Same W0 X) (fun z _ => n' - (intOf z).toNat)
    case atStart => exact ⟨0, rfl, Nat.zero_le _, fun j hj => by omega, Same.refl _⟩
    case round =>
      obtain ⟨i, rfl, hi, hall, hw⟩ := hrel
      have HAL := hide hall
      have k2 := (unhide HVA).cell (m := 2) rfl
      rw [← hw.cell] at k2
      have l2 := (unhide HVB).cell (m := 2) rfl
      rw [← hw.cell] at l2
      by_cases h : i < n'
      · have i1 : (i : Int) < (n' : Int) := by omega
        have i0 : (0 : Int) ≤ (i : Int) := Int.natCast_nonneg _
        have iz : decide ((i : Int) < (n' : Int)) = true := decide_eq_true i1
        have i2 : (i : Int) < (n : Int) := by have := unhide HLE; omega
        have hxa := tp_at (T := A) (i := i) (by have := unhide HLA; omega)
        have hxb := tp_at (T := B) (i := i) (by have := unhide HLB; omega)
        obtain ⟨rfl, pw, c0⟩ := (unhide HUA).at hxa
        obtain ⟨rfl, qw, d0⟩ := (unhide HUB).at hxb
        rw [← hw.cell] at c0 d0
        have HW := hide hw
        clear pw qw hxa hxb hw hall
        by_cases hlt : tp A i < tp B i
        · have HU : Hid (under A B = false) := hide (under_no (S := A) (P := B) (i := i) (by have := unhide HLB; omega) (by omega))
          generalize tp A i = x at *
          generalize tp B i = y at *
          have t1 := decide_eq_true hlt
          go_wp2_with fail
          first | go_quiet (fail) | skip
          go_wp2_with fail
          go_ret
          exact ⟨by rw [unhide HSE, unhide HU]; first | done | rfl, by repeat (first | exact bc (unhide HBB) (unhide HW).bel | refine bel_dn' ?_ _ | refine Below.drew ?_)⟩
        · have HNX : Hid (∀ j, j < i + 1 → tp B j ≤ tp A j) := hide (fun j hj => by
            by_cases e : j = i
            · subst e; omega
            · exact (unhide HAL) j (by omega))
          generalize tp A i = x at *
          generalize tp B i = y at *
          have t1 := decide_eq_false hlt
          go_wp2_with fail
          first | go_quiet (fail) | skip
          go_wp2_with fail
          go_roundw
          case rel => exact ⟨i + 1, by simp, h, unhide HNX, by repeat (first | exact unhide HW | refine Same.dnx ?_ _ | refine Same.drew ?_)⟩
          case measure => simp only [intOf]; omega
      · have iz : decide ((i : Int) < (n' : Int)) = false := decide_eq_false (by omega)
        have HU : Hid (under A B = true) := hide (under_iff.2 (fun j hj => (unhide HAL) j (by have := unhide HLB; omega)))
        have HW := hide hw
        clear hw hall
        go_wp2_with fail
        go_ret
        exact ⟨by rw [unhide HSE, unhide HU]; first | done | rfl, bc (unhide HBB) (unhide HW).bel⟩
  · have HSE : Hid ((stB W H A W' H' B && (decide (0 ≤ R) && decide (R ≤ 3))) = false) := hide (by unfold stB; rw [show pairB W H A W' H' B = false from decide_eq_false hp]; simp)
    have HSP : Hid ((fokB W H A && fokB W' H' B && decide (W = W') && decide (H = H')) = false) := hide (by rw [← pairB_split]; exact decide_eq_false hp)
    clear hp hl hl' hu hu'
    unfold fldV at *
    rw [unhide HSE]
    generalize fokB W H A = ba at *
    generalize fokB W' H' B = bb at *
    go_enter Try.func33, Try.ntmps33
    go_wp2_with fail
    refine (unhide HA _ (unhide HB)).mono ?_
    rintro e W1 ⟨rfl, hb1⟩
    have v1 := (unhide HV).bel hb1
    have k0 := v1.cell (m := 0) rfl
    have k1 := v1.cell (m := 1) rfl
    have k2 := v1.cell (m := 2) rfl
    have HV1 := hide v1
    have HV01 := hide ((unhide HV0).bel hb1)
    have HB1 := hide (bc (unhide HB) hb1)
    clear hb1 v1
    cases ba with
    | false =>
      go_wp2_with fail
      go_ret
      exact ⟨rfl, unhide HB1⟩
    | true =>
    go_wp2_with fail
    refine (unhide HC _ (unhide HB1)).mono ?_
    rintro e W0 ⟨rfl, hb2⟩
    have v1 := (unhide HV1).bel hb2
    have j0 := v1.cell (m := 0) rfl
    have j1 := v1.cell (m := 1) rfl
    have v2 := (unhide HV01).bel hb2
    have i0 := v2.cell (m := 0) rfl
    have i1 := v2.cell (m := 1) rfl
    have HVB := hide v1
    have HVA := hide v2
    have HBB := hide (bc (unhide HB1) hb2)
    have HUA := hide ((unhide HUA0).bel (unhide HBB))
    have HUB := hide ((unhide HUB0).bel (unhide HBB))
    clear hb2 v1 v2 k0 k1 k2
    cases bb with
    | false =>
      go_wp2_with fail
      go_ret
      exact ⟨rfl, unhide HBB⟩
    | true =>
    by_cases e1 : W = W'
    · have e2 : ¬ H = H' := fun e2 => by have := unhide HSP; simp [e1, e2] at this
      have t1 : (W != W') = false := by simp [e1]
      have t2 : (H != H') = true := by simp [e2]
      clear e1 e2
      go_wp2_with fail
      go_ret
      exact ⟨rfl, unhide HBB⟩
    · have t1 : (W != W') = true := by simp [e1]
      clear e1
      go_wp2_with fail
      go_ret
      exact ⟨rfl, unhide HBB⟩
end Go.Proofs.Ytjhldjojkaphkaa

namespace Go.Proofs.Ytjhldjojkaphkaa
open Go.ChangeShapes Go.WideShapes Go.ChangeAt Go.RowKit
set_option linter.unusedVariables false
set_option linter.unusedSimpArgs false

theorem Zm.drew {X : World} {B gb gt gl n ct W H r pc : Nat} {pu : Option Addr} {s : Zs} (h : Zm X B gb gt gl n ct W H r pc pu s) : Zm X.drew B gb gt gl n ct W H r pc pu s := h.bel (Below.refl _ _).drew
theorem Zm.dn {X : World} {B gb gt gl n ct W H r pc : Nat} {pu : Option Addr} {s : Zs} (h : Zm X B gb gt gl n ct W H r pc pu s) (k : Nat) : Zm (X.drewN k) B gb gt gl n ct W H r pc pu s := h.bel ⟨rfl, rfl, rfl, Nat.le_refl _, fun _ _ => rfl⟩
/-- how the model's Zigzag ends -/
def ZendM (w' : World) (B : Nat) (ps : List (Nat × Nat × Int)) (v : Value) (E : Int) : Prop :=
  (1 + 4 * ps.length ≤ 2000 ∧ E = 0 ∧ Mvs w' B v (1 + 4 * ps.length) (zcs ps ps.length)) ∨ (2000 < 1 + 4 * ps.length ∧ E = 18 ∧ Mvs w' B v 0 [])
theorem mvs_made (W : World) (B g : Nat) (hb : B ≤ W.heap.size) (hg : g = W.heap.size) : Mvs (W.alloc (.cells #[] 65)) B (.slice (some ⟨g, 0, none⟩) 0 0) 0 [] := by
  subst hg
  exact World.ownsRow_made W #[] 0 hb (by decide) (by simp)
set_option maxHeartbeats 8000000 in
set_option maxRecDepth 100000 in
theorem zgM_good (W H n c g po c' g' po' r s : Nat) (A P : List Int) (w : World) (hW1 : 1 ≤ W) (hW : W ≤ 24) (hH1 : 1 ≤ H) (hH : H ≤ 24) (hn : n = W * H) (hr : r ≤ 3) (hs1 : 1 ≤ s) (hs : s ≤ 24)
    (hst : stB (W : Int) (H : Int) A (W : Int) (H : Int) P = true) (hF : Fd w g po n c A) (hF' : Fd w g' po' n c' P) (hA : ∀ i, 0 ≤ tp A i ∧ tp A i ≤ 24) (hL : ∀ i, 0 ≤ tp (lowL W H r P) i ∧ tp (lowL W H r P) i ≤ 24) :
    Calls Try.prog 10 #[fldV (W : Int) (H : Int) (some ⟨g, po, none⟩) n c, fldV (W : Int) (H : Int) (some ⟨g', po', none⟩) n c', .int .i64 (r : Int), .int .i64 (s : Int)] w fun e w' => (∃ v E, e = .returned (.tuple #[v, .int .i64 E]) ∧ ZendM w' w.heap.size (zzL W H r s A (lowL W H r P)) v E) ∧ Below w.heap.size w w' := by
  have hnb : n ≤ 576 := by rw [hn]; exact Nat.mul_le_mul hW hH
  have hn1 : 1 ≤ n := by rw [hn]; exact Nat.mul_pos hW1 hH1
  have hbl : Below w.heap.size w ((w.alloc (.cells #[.int .i64 (W : Int), .int .i64 (H : Int), .slice (some ⟨g, po, none⟩) n c] 25)).alloc (.cells #[.int .i64 (W : Int), .int .i64 (H : Int), .slice (some ⟨g', po', none⟩) n c'] 25)) := ba (ba (Below.refl _ _) _) _
  have HB0 := hide hbl
  have V4 := hide (vb_new1 w 25 [.int .i64 (W : Int), .int .i64 (H : Int), .slice (some ⟨g, po, none⟩) n c] (.cells #[.int .i64 (W : Int), .int .i64 (H : Int), .slice (some ⟨g', po', none⟩) n c'] 25))
  have V5 := hide (vb_new2 w 25 [.int .i64 (W : Int), .int .i64 (H : Int), .slice (some ⟨g', po', none⟩) n c'] (.cells #[.int .i64 (W : Int), .int .i64 (H : Int), .slice (some ⟨g, po, none⟩) n c] 25))
  have HP := hide (fun X (hX : Below w.heap.size w X) => prM_any (r : Int) (W : Int) (H : Int) (some ⟨g, po, none⟩) g po n c A (W : Int) (H : Int) (some ⟨g', po', none⟩) g' po' n c' P X hF.len (by omega) (hF.bel hX).its hF'.len (by omega) (hF'.bel hX).its)
  rw [hst, show (true && (decide (0 ≤ (r : Int)) && decide ((r : Int) ≤ 3))) = true by simp; omega] at HP
  have HLW := hide (fun X (hX : Below w.heap.size w X) => lwM_any W H r g' po' n c' P X hW1 hW hH1 hH hr hn (hF'.bel hX))
  have HLV := hide (fun X => lvM_any s X hs1 hs)
  have HLL : Hid ((lowL W H r P).length = n) := hide (by unfold lowL; rw [byL_len, hn])
  have HZE := hide (zrun_end W H r s A (lowL W H r P))
  have HZO := hide (zrun_ok (W := W) (H := H) (r := r) (s := s) (n := n) ⟨hF.len, hA⟩ hL)
  have HZ1 := hide (fun a y i x (ha : a < lvn s) (hy : y < H) (hi : i < W) hx => zr1 (W := W) (H := H) (r := r) (s := s) (A := A) (L := lowL W H r P) (a := a) (y := y) (i := i) (x := x) ha hy hi hx)
  have HZ2 := hide (fun y x (hy : y < H) (hx : x < W) => zr2 (W := W) (H := H) (r := r) (s := s) (A := A) (L := lowL W H r P) (y := y) (x := x) hy hx)
  have HZ0 : Hid (zrun W H r s A (lowL W H r P) 0 = ⟨A, []⟩) := hide rfl
  have HST := hide (fun (gb gt gl ct B x y : Nat) (z : Int) (st : Zs) (X : World) (hx : x < W) (hy : y < H) (hz0 : 0 ≤ z) (hz1 : z ≤ 24) h1 h2 h3 h4 h5 h6 h7 h8 h9 => stM_any W H r x y n ct c' gb gt gl B (some ⟨g', po', none⟩) z st X hW hH hr hx hy hn hz0 hz1 h1 h2 h3 h4 h5 h6 h7 h8 h9)
  have HCC : Hid (cnC W H s = lvn s * n + n) := hide (by unfold cnC; rw [hn])
  have HFA := hide hF
  have HAL := hide hF.len
  have HIA := hide (islv_any s)
  have HLG := hide (fun k (h : k < lvn s) => lvls_get h)
  have HLB := hide (fun k => lvl_bd s k)
  have HLVL := hide (lvls_len s)
  have hlv := lvn_le (s := s) hs1
  have HHW : Hid (n = H * W) := hide (by rw [hn, Nat.mul_comm])
  rw [← hn] at HZ1 HZ2
  have HLT := hide hL
  obtain ⟨LL, hLLe⟩ : ∃ LL, lowL W H r P = LL := ⟨_, rfl⟩
  rw [hLLe] at HLW HLL HZE HZO HZ1 HZ2 HZ0 HLT ⊢
  obtain ⟨ZR, hZR⟩ : ∃ ZR, zrun W H r s A LL = ZR := ⟨_, rfl⟩
  simp only [hZR] at HZE HZO HZ1 HZ2 HZ0
  obtain ⟨ls, hls⟩ : ∃ ls, lvls s = ls := ⟨_, rfl⟩
  rw [hls] at HLVL
  simp only [hls] at HLV HIA HLG
  obtain ⟨lN, hlN⟩ : ∃ lN, lvn s = lN := ⟨_, rfl⟩
  simp only [hlN] at HLV HZ1 HZ2 HCC HLG HLVL hlv
  have s1 : decide ((s : Int) < 1) = false := decide_eq_false (by omega)
  have s2 : decide ((24 : Int) < (s : Int)) = false := decide_eq_false (by omega)
  unfold fldV at *
  have HN := hide hn
  clear hF hF' hst hbl hn hL hA hLLe hZR hls hlN
  go_enter Try.func10, Try.ntmps10
  go_wp2_with fail
  refine (unhide HP _ (unhide HB0)).mono ?_
  rintro e W1 ⟨rfl, hb1⟩
  have U4 := hide ((unhide V4).bel hb1)
  have U5 := hide ((unhide V5).bel hb1)
  have HB1 := hide (bc (unhide HB0) hb1)
  have e0 := (unhide U5).cell (m := 0) rfl
  have e1 := (unhide U5).cell (m := 1) rfl
  have e2 := (unhide U5).cell (m := 2) rfl
  clear hb1 V4 V5 HB0 HP
  go_wp2_with fail
  refine (unhide HLW _ (unhide HB1)).mono ?_
  rintro e W2 ⟨⟨lv, rfl, hlv0, hlr⟩, hb2⟩
  obtain ⟨ql, cl, rfl, hql1, hql2, hcl1, hcl2⟩ := hlr.sm hlv0
  have HLI := hide hlr.ints
  have T4 := hide ((unhide U4).bel hb2)
  have T5 := hide ((unhide U5).bel hb2)
  have HB2 := hide (bc (unhide HB1) hb2)
  have HF2 := hide ((unhide HFA).bel (unhide HB2))
  have h5lt : w.heap.size + 1 < W2.heap.size := (unhide T5).lt
  clear hb2 hlr hlv0 U4 U5 HB1 HLW e0 e1 e2 HFA
  go_wp2_with fail
  refine Go.Code.wp_mono (Only.to (fun _ _ h => h)) (rg4 (A_ := A) hn1 hnb T4 T5 HAL HF2 (fun eb gt ct ob gb X hX hrt hob hvo h1 h2 h3 h4 h5 => ?_))
  have HX := hide hX
  have HRT := hide hrt
  have HVO := hide hvo
  have HVG := hide h2
  have hgt1 : W2.heap.size ≤ gt := hrt.ge
  have hgt2 : gt < X.heap.size := (World.ownsRow.lt hrt gt rfl).2
  have hob2 := hvo.lt
  have hgb2 := h2.lt
  clear hX hrt hvo h2
  go_wp2_with fail
  refine (unhide HLV _).mono ?_
  rintro e W5 ⟨⟨lv, rfl, hlv0, hlr⟩, hb5⟩
  obtain ⟨gl, cg, rfl, hgl1, hgl2, hcg1, hcg2⟩ := hlr.sm hlv0
  have HGI := hide hlr.ints
  have HX5 := hide (bc (unhide HX) hb5)
  have D5 := hide ((unhide T5).bel (unhide HX5))
  have HQI := hide ((unhide HLI).below (unhide HX5) hql2)
  have HB5 := hide (bc (unhide HB2) (unhide HX5))
  obtain ⟨B, hB⟩ : ∃ B, W2.heap.size = B := ⟨_, rfl⟩
  have HZM0 : Hid (Zm W5 B gb gt gl n ct W H r c' (some ⟨g', po', none⟩) (ZR 0)) := hide (by
    rw [unhide HZ0]
    refine ⟨⟨.slice (some ⟨ob, 0, none⟩) 1 1, (unhide HVG).bel hb5, ?_, ?_⟩, ?_⟩
    · exact ⟨rfl, .inr ⟨ob, 1, _, rfl, by omega, (unhide HVO).bel hb5, Nat.le_refl _, by decide, rfl, rfl⟩⟩
    · intro q hq
      simp only [Value.ownBlock, Option.some.injEq] at hq
      omega
    · rw [← hB]
      exact (unhide HRT).below hb5)
  have HGN : Hid (gl ≠ gb ∧ gl ≠ gt ∧ gb ≠ gt ∧ B ≤ gb ∧ B ≤ gt ∧ B ≤ gl) := hide (by omega)
  have HWB : Hid (w.heap.size ≤ B) := hide (by omega)
  have h5B : w.heap.size + 1 < B := by omega
  have hqlB : ql < B := by omega
  have hBW5 : B ≤ W5.heap.size := by omega
  clear hb5 hlr hlv0 HX HX5 T4 T5 HLI HB2 HF2 HRT HVO HVG hgt1 hgt2 hob hob2 hgb2 h1 h3 h4 h5 hB HLV h5lt hql1 hql2 HAL HZ0
  go_wp2_with fail
  go_loopw [13] (fun z X => ∃ k : Nat, z = .int .i64 (k : Int) ∧ k ≤ lN ∧ Zm X B gb gt gl n ct W H r c' (some ⟨g', po', none⟩) (ZR (k * n)) ∧ Zk B gl W5 X) (fun z _ => lN - (intOf z).toNat)
  case atStart => exact ⟨0, rfl, Nat.zero_le _, by rw [Nat.zero_mul]; exact unhide HZM0, Zk.refl _ _ _⟩
  case round =>
    obtain ⟨k, rfl, hk, hzm, hzk⟩ := hrel
    have HZK := hide hzk
    have HZM := hide hzm
    clear hzm hzk
    by_cases h : k < lN
    · have i1 : (k : Int) < (lN : Int) := by omega
      have i0 : (0 : Int) ≤ (k : Int) := Int.natCast_nonneg _
      have iz : decide ((k : Int) < (lN : Int)) = true := decide_eq_true i1
      have HK1 : Hid ((k + 1) * n = k * n + n) := hide (by rw [Nat.add_mul, Nat.one_mul])
      have hlc := (unhide HGI) k _ (unhide HLG k h)
      rw [Nat.zero_add] at hlc
      have HLC := hide hlc
      have hlb := unhide HLB k
      have HZ1k := hide (fun y i x => unhide HZ1 k y i x h)
      generalize lvl s k = lk at *
      obtain ⟨kn, hkn⟩ : ∃ kn, k * n = kn := ⟨_, rfl⟩
      rw [hkn] at HZM HK1
      simp only [hkn] at HZ1k
      clear hkn hlc
      go_wp2_with fail
      generalize hWa : wr = Wa at *
      clear hWa
      go_loopw [14] (fun z X => ∃ y : Nat, z = .int .i64 (y : Int) ∧ y ≤ H ∧ Zm X B gb gt gl n ct W H r c' (some ⟨g', po', none⟩) (ZR (kn + y * W)) ∧ Zk B gl W5 X) (fun z _ => H - (intOf z).toNat)
      case atStart => exact ⟨0, rfl, Nat.zero_le _, by rw [Nat.zero_mul, Nat.add_zero]; exact unhide HZM, unhide HZK⟩
      case round =>
        obtain ⟨y, rfl, hy, hzm, hzk⟩ := hrel
        have HZKy := hide hzk
        have HZMy := hide hzm
        have d5 := (unhide D5).below hzk.bel h5B
        have p1 := d5.cell (m := 1) rfl
        clear hzm hzk d5
        by_cases h2 : y < H
        · have j1 : (y : Int) < (H : Int) := by omega
          have j0 : (0 : Int) ≤ (y : Int) := Int.natCast_nonneg _
          have jz : decide ((y : Int) < (H : Int)) = true := decide_eq_true j1
          have hyW : y * W ≤ 24 * 24 := Nat.mul_le_mul (by omega) hW
          have HY1 : Hid ((y + 1) * W = y * W + W) := hide (by rw [Nat.add_mul, Nat.one_mul])
          have hyn : y * W + W ≤ n := by
            have : (y + 1) * W ≤ H * W := Nat.mul_le_mul_right W h2
            rw [unhide HHW]
            rw [Nat.add_mul, Nat.one_mul] at this
            exact this
          have eyW : (y : Int) * (W : Int) = ((y * W : Nat) : Int) := by simp
          have HZ1y := hide (fun i x => unhide HZ1k y i x h2)
          obtain ⟨yW, hyWe⟩ : ∃ yW, y * W = yW := ⟨_, rfl⟩
          rw [hyWe] at HZMy HY1 hyW hyn eyW
          simp only [hyWe] at HZ1y
          have wyW : IntKind.i64.wrap ((y : Int) * (W : Int)) = (yW : Int) := by rw [eyW]; exact Go.IntWalk.i64_in _ ⟨by omega, by omega⟩
          clear hyWe eyW
          go_wp2_with fail
          clear p1
          generalize hWb : wr = Wb at *
          clear hWb
          go_loopw [15] (fun z X => ∃ i : Nat, z = .int .i64 (i : Int) ∧ i ≤ W ∧ Zm X B gb gt gl n ct W H r c' (some ⟨g', po', none⟩) (ZR (kn + (yW + i))) ∧ Zk B gl W5 X) (fun z _ => W - (intOf z).toNat)
          case atStart => exact ⟨0, rfl, Nat.zero_le _, unhide HZMy, unhide HZKy⟩
          case round =>
            obtain ⟨i, rfl, hi, hzm, hzk⟩ := hrel
            have HZKi := hide hzk
            have HZMi := hide hzm
            have d5 := (unhide D5).below hzk.bel h5B
            have p0 := d5.cell (m := 0) rfl
            have HQx := hide ((unhide HQI).below hzk.bel hqlB)
            have hlc : wr.cell? ⟨gl, k, none⟩ = some (.int .i64 lk) := (World.cell?_of_block (w := W5) (a := ⟨gl, k, none⟩) hzk.lv).trans (unhide HLC)
            have hgls : gl < wr.heap.size := Nat.lt_of_lt_of_le hgl2 hzk.bel.size
            clear hzm hzk d5
            by_cases h3 : i < W
            · have l1 : (i : Int) < (W : Int) := by omega
              have l0 : (0 : Int) ≤ (i : Int) := Int.natCast_nonneg _
              have lz : decide ((i : Int) < (W : Int)) = true := decide_eq_true l1
              have w1 : IntKind.i64.wrap ((W : Int) - 1) = (W : Int) - 1 := wrap_i (by omega) (by omega)
              have hbody : ∀ xx : Nat, xx < W → xx = (if y % 2 = 1 then W - 1 - i else i) → True := fun _ _ _ => trivial
              obtain ⟨hok1, hok2⟩ := unhide HZO (kn + (yW + i))
              have HOK1 := hide hok1
              have HCALL := hide (fun (xx : Nat) (hxx : xx < W) (X : World) (hX1 : gl < X.heap.size) (hX2 : Zm X B gb gt gl n ct W H r c' (some ⟨g', po', none⟩) (ZR (kn + (yW + i)))) => unhide HST gb gt gl ct B xx y lk (ZR (kn + (yW + i))) X hxx h2 hlb.1 hlb.2 (unhide HGN).2.2.2.1 (unhide HGN).2.2.2.2.1 (unhide HGN).2.2.1 (unhide HGN).1 (unhide HGN).2.1 hX1 (unhide HOK1) hok2 hX2)
              have HSTEP := hide (fun (xx : Nat) hx => unhide HZ1y i xx h3 hx)
              obtain ⟨Zn, hZn⟩ : ∃ Zn, ZR (kn + (yW + (i + 1))) = Zn := ⟨_, rfl⟩
              have HZNE := hide hZn
              simp only [hZn] at HSTEP
              clear hZn
              generalize ZR (kn + (yW + i)) = Zo at *
              clear hok1 hok2 hbody HOK1
              by_cases hodd : y % 2 = 1
              · have et : (y : Int).tmod 2 = 1 := by rw [Int.tmod_eq_emod_of_nonneg (by omega)]; omega
                have et2 : (y : Int) % 2 = 1 := by omega
                have w2 : IntKind.i64.wrap ((W : Int) - 1 - (i : Int)) = ((W - 1 - i : Nat) : Int) := (wrap_i (by omega) (by omega)).trans (by omega)
                obtain ⟨xx, hxx⟩ : ∃ q, W - 1 - i = q := ⟨_, rfl⟩
                have hxW : xx < W := by omega
                have HS := hide (unhide HSTEP xx (by rw [if_pos hodd, hxx]))
                rw [hxx] at w2
                clear HSTEP hxx
                have hyx : yW + xx < n := by omega
                have wyx : IntKind.i64.wrap ((yW : Int) + (xx : Int)) = ((yW + xx : Nat) : Int) := by
                  rw [Int.natCast_add]
                  exact Go.IntWalk.i64_in _ ⟨by omega, by omega⟩
                have lwc := iat (T := LL) (unhide HQx) (i := yW + xx) (by rw [unhide HLL]; exact hyx)
                rw [Nat.zero_add] at lwc
                obtain ⟨q, hq⟩ : ∃ q, yW + xx = q := ⟨_, rfl⟩
                rw [hq] at wyx lwc HS hyx
                have q1 : (q : Int) < (n : Int) := by omega
                have q0 : (0 : Int) ≤ (q : Int) := Int.natCast_nonneg _
                obtain ⟨lw, hlw⟩ : ∃ lw, tp LL q = lw := ⟨_, rfl⟩
                rw [hlw] at lwc HS
                clear hq hlw hodd
                have HCx := hide (unhide HCALL xx hxW)
                clear HCALL
                by_cases hle : lw ≤ lk
                · have dl : decide (lw ≤ lk) = true := decide_eq_true hle
                  have HSn : Hid (Zn = zst W H r Zo (xx, y, lk)) := hide (by rw [unhide HS, if_pos hle])
                  clear HS
                  go_wp2_with fail
                  go_quiet (fail)
                  go_wp2_with fail
                  refine (unhide HCx _ (by first | exact hgls | simpa using hgls) (by repeat (first | exact unhide HZMi | refine Zm.drew ?_ | refine Zm.dn ?_ _))).mono ?_
                  rintro e W7 ⟨rfl, hz7, hb7, hl7⟩
                  have HZ7 := hide hz7
                  have HK7 : Hid (Zk B gl W5 W7) := hide (Zk.step (by repeat (first | exact unhide HZKi | refine Zk.drew ?_ | refine Zk.dn ?_ _)) hb7 hl7)
                  clear hz7 hb7 hl7
                  go_wp2_with fail
                  go_roundw
                  case rel => exact ⟨i + 1, by simp, h3, by rw [unhide HZNE, unhide HSn]; repeat (first | exact unhide HZ7 | refine Zm.drew ?_ | refine Zm.dn ?_ _), by repeat (first | exact unhide HK7 | refine Zk.drew ?_ | refine Zk.dn ?_ _)⟩
                  case measure => simp only [intOf]; omega
                · have dl : decide (lw ≤ lk) = false := decide_eq_false hle
                  have HSn : Hid (Zn = Zo) := hide (by rw [unhide HS, if_neg hle])
                  clear HS
                  go_wp2_with fail
                  go_quiet (fail)
                  go_wp2_with fail
                  go_roundw
                  case rel => exact ⟨i + 1, by simp, h3, by rw [unhide HZNE, unhide HSn]; repeat (first | exact unhide HZMi | refine Zm.drew ?_ | refine Zm.dn ?_ _), by repeat (first | exact unhide HZKi | refine Zk.drew ?_ | refine Zk.dn ?_ _)⟩
                  case measure => simp only [intOf]; omega
              · have et : (y : Int).tmod 2 = 0 := by rw [Int.tmod_eq_emod_of_nonneg (by omega)]; omega
                have et2 : (y : Int) % 2 = 0 := by omega
                have hxW : i < W := h3
                have HS := hide (unhide HSTEP i (by rw [if_neg hodd]))
                clear HSTEP
                have hyx : yW + i < n := by omega
                have wyx : IntKind.i64.wrap ((yW : Int) + (i : Int)) = ((yW + i : Nat) : Int) := by
                  rw [Int.natCast_add]
                  exact Go.IntWalk.i64_in _ ⟨by omega, by omega⟩
                have lwc := iat (T := LL) (unhide HQx) (i := yW + i) (by rw [unhide HLL]; exact hyx)
                rw [Nat.zero_add] at lwc
                obtain ⟨q, hq⟩ : ∃ q, yW + i = q := ⟨_, rfl⟩
                rw [hq] at wyx lwc HS hyx
                have q1 : (q : Int) < (n : Int) := by omega
                have q0 : (0 : Int) ≤ (q : Int) := Int.natCast_nonneg _
                obtain ⟨lw, hlw⟩ : ∃ lw, tp LL q = lw := ⟨_, rfl⟩
                rw [hlw] at lwc HS
                clear hq hlw hodd
                have HCx := hide (unhide HCALL i hxW)
                clear HCALL
                by_cases hle : lw ≤ lk
                · have dl : decide (lw ≤ lk) = true := decide_eq_true hle
                  have HSn : Hid (Zn = zst W H r Zo (i, y, lk)) := hide (by rw [unhide HS, if_pos hle])
                  clear HS
                  go_wp2_with fail
                  go_quiet (fail)
                  go_wp2_with fail
                  refine (unhide HCx _ (by first | exact hgls | simpa using hgls) (by repeat (first | exact unhide HZMi | refine Zm.drew ?_ | refine Zm.dn ?_ _))).mono ?_
                  rintro e W7 ⟨rfl, hz7, hb7, hl7⟩
                  have HZ7 := hide hz7
                  have HK7 : Hid (Zk B gl W5 W7) := hide (Zk.step (by repeat (first | exact unhide HZKi | refine Zk.drew ?_ | refine Zk.dn ?_ _)) hb7 hl7)
                  clear hz7 hb7 hl7
                  go_wp2_with fail
                  go_roundw
                  case rel => exact ⟨i + 1, by simp, h3, by rw [unhide HZNE, unhide HSn]; repeat (first | exact unhide HZ7 | refine Zm.drew ?_ | refine Zm.dn ?_ _), by repeat (first | exact unhide HK7 | refine Zk.drew ?_ | refine Zk.dn ?_ _)⟩
                  case measure => simp only [intOf]; omega
                · have dl : decide (lw ≤ lk) = false := decide_eq_false hle
                  have HSn : Hid (Zn = Zo) := hide (by rw [unhide HS, if_neg hle])
                  clear HS
                  go_wp2_with fail
                  go_quiet (fail)
                  go_wp2_with fail
                  go_roundw
                  case rel => exact ⟨i + 1, by simp, h3, by rw [unhide HZNE, unhide HSn]; repeat (first | exact unhide HZMi | refine Zm.drew ?_ | refine Zm.dn ?_ _), by repeat (first | exact unhide HZKi | refine Zk.drew ?_ | refine Zk.dn ?_ _)⟩
                  case measure => simp only [intOf]; omega
            · have lz : decide ((i : Int) < (W : Int)) = false := decide_eq_false (by omega)
              have HZn : Hid (Zm wr B gb gt gl n ct W H r c' (some ⟨g', po', none⟩) (ZR (kn + (y + 1) * W))) := hide (by
                rw [unhide HY1]
                have h9 := unhide HZMi
                rw [show i = W by omega] at h9
                exact h9)
              clear hlc
              go_wp2_with fail
              go_roundw
              case rel => exact ⟨y + 1, by simp, h2, by repeat (first | exact unhide HZn | refine Zm.drew ?_ | refine Zm.dn ?_ _), by repeat (first | exact unhide HZKi | refine Zk.drew ?_ | refine Zk.dn ?_ _)⟩
              case measure => simp only [intOf]; omega
        · have jz : decide ((y : Int) < (H : Int)) = false := decide_eq_false (by omega)
          have HZn : Hid (Zm wr B gb gt gl n ct W H r c' (some ⟨g', po', none⟩) (ZR ((k + 1) * n))) := hide (by
            rw [unhide HK1]
            have h9 := unhide HZMy
            rw [show y = H by omega, ← unhide HHW] at h9
            exact h9)
          go_wp2_with fail
          go_roundw
          case rel => exact ⟨k + 1, by simp, h, by repeat (first | exact unhide HZn | refine Zm.drew ?_ | refine Zm.dn ?_ _), by repeat (first | exact unhide HZKy | refine Zk.drew ?_ | refine Zk.dn ?_ _)⟩
          case measure => simp only [intOf]; omega
    · have iz : decide ((k : Int) < (lN : Int)) = false := decide_eq_false (by omega)
      obtain rfl : lN = k := by omega
      obtain ⟨kn, hkn⟩ : ∃ kn, lN * n = kn := ⟨_, rfl⟩
      rw [hkn] at HZM HCC
      simp only [hkn] at HZ2
      clear hkn HZ1
      go_wp2_with fail
      generalize hWa : wr = Wa at *
      clear hWa
      go_loopw [17] (fun z X => ∃ y : Nat, z = .int .i64 (y : Int) ∧ y ≤ H ∧ Zm X B gb gt gl n ct W H r c' (some ⟨g', po', none⟩) (ZR (kn + y * W)) ∧ Zk B gl W5 X) (fun z _ => H - (intOf z).toNat)
      case atStart => exact ⟨0, rfl, Nat.zero_le _, by rw [Nat.zero_mul, Nat.add_zero]; exact unhide HZM, unhide HZK⟩
      case round =>
        obtain ⟨y, rfl, hy, hzm, hzk⟩ := hrel
        have HZKy := hide hzk
        have HZMy := hide hzm
        have d5 := (unhide D5).below hzk.bel h5B
        have p1 := d5.cell (m := 1) rfl
        clear hzm hzk d5
        by_cases h2 : y < H
        · have j1 : (y : Int) < (H : Int) := by omega
          have j0 : (0 : Int) ≤ (y : Int) := Int.natCast_nonneg _
          have jz : decide ((y : Int) < (H : Int)) = true := decide_eq_true j1
          have hyW : y * W ≤ 24 * 24 := Nat.mul_le_mul (by omega) hW
          have HY1 : Hid ((y + 1) * W = y * W + W) := hide (by rw [Nat.add_mul, Nat.one_mul])
          have hyn : y * W + W ≤ n := by
            have : (y + 1) * W ≤ H * W := Nat.mul_le_mul_right W h2
            rw [unhide HHW]
            rw [Nat.add_mul, Nat.one_mul] at this
            exact this
          have eyW : (y : Int) * (W : Int) = ((y * W : Nat) : Int) := by simp
          have HZ2y := hide (fun x => unhide HZ2 y x h2)
          obtain ⟨yW, hyWe⟩ : ∃ yW, y * W = yW := ⟨_, rfl⟩
          rw [hyWe] at HZMy HY1 hyW hyn eyW
          simp only [hyWe] at HZ2y
          have wyW : IntKind.i64.wrap ((y : Int) * (W : Int)) = (yW : Int) := by rw [eyW]; exact Go.IntWalk.i64_in _ ⟨by omega, by omega⟩
          clear hyWe eyW
          go_wp2_with fail
          clear p1
          generalize hWb : wr = Wb at *
          clear hWb
          go_loopw [18] (fun z X => ∃ x : Nat, z = .int .i64 (x : Int) ∧ x ≤ W ∧ Zm X B gb gt gl n ct W H r c' (some ⟨g', po', none⟩) (ZR (kn + (yW + x))) ∧ Zk B gl W5 X) (fun z _ => W - (intOf z).toNat)
          case atStart => exact ⟨0, rfl, Nat.zero_le _, unhide HZMy, unhide HZKy⟩
          case round =>
            obtain ⟨x, rfl, hx, hzm, hzk⟩ := hrel
            have HZKi := hide hzk
            have HZMi := hide hzm
            have d5 := (unhide D5).below hzk.bel h5B
            have p0 := d5.cell (m := 0) rfl
            have HQx := hide ((unhide HQI).below hzk.bel hqlB)
            have HGx := hide ((unhide HGI).blk hzk.lv)
            have hgls : gl < wr.heap.size := Nat.lt_of_lt_of_le hgl2 hzk.bel.size
            clear hzm hzk d5
            by_cases h3 : x < W
            · have l1 : (x : Int) < (W : Int) := by omega
              have l0 : (0 : Int) ≤ (x : Int) := Int.natCast_nonneg _
              have lz : decide ((x : Int) < (W : Int)) = true := decide_eq_true l1
              obtain ⟨hok1, hok2⟩ := unhide HZO (kn + (yW + x))
              have HOK1 := hide hok1
              have hyx : yW + x < n := by omega
              have wyx : IntKind.i64.wrap ((yW : Int) + (x : Int)) = ((yW + x : Nat) : Int) := by
                rw [Int.natCast_add]
                exact Go.IntWalk.i64_in _ ⟨by omega, by omega⟩
              have lwc := iat (T := LL) (unhide HQx) (i := yW + x) (by rw [unhide HLL]; exact hyx)
              rw [Nat.zero_add] at lwc
              have hlwb := unhide HLT (yW + x)
              have HS := hide (unhide HZ2y x h3)
              obtain ⟨Zn, hZn⟩ : ∃ Zn, ZR (kn + (yW + (x + 1))) = Zn := ⟨_, rfl⟩
              have HZNE := hide hZn
              rw [hZn] at HS
              clear hZn
              have HCALL := hide (fun (X : World) (hX1 : gl < X.heap.size) (hX2 : Zm X B gb gt gl n ct W H r c' (some ⟨g', po', none⟩) (ZR (kn + (yW + x)))) => unhide HST gb gt gl ct B x y (tp LL (yW + x)) (ZR (kn + (yW + x))) X h3 h2 hlwb.1 hlwb.2 (unhide HGN).2.2.2.1 (unhide HGN).2.2.2.2.1 (unhide HGN).2.2.1 (unhide HGN).1 (unhide HGN).2.1 hX1 (unhide HOK1) hok2 hX2)
              generalize ZR (kn + (yW + x)) = Zo at *
              clear hok1 hok2 HOK1 hlwb
              have HIS := hide (unhide HIA (tp LL (yW + x)))
              have HYXN := hide (show yW + (x + 1) = yW + x + 1 by omega)
              obtain ⟨q, hq⟩ : ∃ q, yW + x = q := ⟨_, rfl⟩
              rw [hq] at wyx lwc HS hyx HCALL HIS
              have q1 : (q : Int) < (n : Int) := by omega
              have q0 : (0 : Int) ≤ (q : Int) := Int.natCast_nonneg _
              obtain ⟨lw, hlw⟩ : ∃ lw, tp LL q = lw := ⟨_, rfl⟩
              rw [hlw] at lwc HS HCALL HIS
              clear hq hlw
              go_wp2_with fail
              try go_quiet (fail)
              go_wp2_with fail
              clear lwc p0
              generalize hWc : wr = Wc at *
              clear hWc
              go_loopw [20, 21] (fun zl z X => ∃ j : Nat, z = .int .i64 (j : Int) ∧ j ≤ lN ∧ zl = .bool ((ls.take j).any fun l => l == lw) ∧ Same Wc X) (fun _ z _ => lN - (intOf z).toNat)
              case atStart => exact ⟨0, rfl, Nat.zero_le _, rfl, by repeat (first | exact Same.refl _ | refine Same.drew ?_ | refine Same.dnz ?_ _)⟩
              case round =>
                obtain ⟨j, rfl, hj, rfl, hsm⟩ := hrel
                have HSM := hide hsm
                by_cases h4 : j < lN
                · have m1 : (j : Int) < (lN : Int) := by omega
                  have m0 : (0 : Int) ≤ (j : Int) := Int.natCast_nonneg _
                  have mz : decide ((j : Int) < (lN : Int)) = true := decide_eq_true m1
                  have hjl := unhide HLG j h4
                  have c1 := (unhide HGx) j _ hjl
                  rw [Nat.zero_add, ← hsm.cell] at c1
                  have HAT := hide (any_takeI (fun l => l == lw) hjl)
                  obtain ⟨tk, htk⟩ : ∃ tk, ((ls.take j).any fun l => l == lw) = tk := ⟨_, rfl⟩
                  rw [htk] at HAT ⊢
                  generalize lvl s j = lj at *
                  clear hsm hjl htk
                  cases tk with
                  | true =>
                    go_wp2_with fail
                    try go_quiet (fail)
                    go_wp2_with fail
                    go_roundw
                    case rel => exact ⟨j + 1, by simp, h4, by rw [unhide HAT]; rfl, by repeat (first | exact unhide HSM | refine Same.drew ?_ | refine Same.dnz ?_ _)⟩
                    case measure => simp only [intOf]; omega
                  | false =>
                    by_cases he : lj = lw
                    · have d1 : (lj == lw) = true := by simpa using he
                      have d2 : decide (lj = lw) = true := decide_eq_true he
                      have HD := hide d1
                      clear he
                      go_wp2_with fail
                      try go_quiet (fail)
                      go_wp2_with fail
                      go_roundw
                      case rel => exact ⟨j + 1, by simp, h4, by rw [unhide HAT]; simp [unhide HD], by repeat (first | exact unhide HSM | refine Same.drew ?_ | refine Same.dnz ?_ _)⟩
                      case measure => simp only [intOf]; omega
                    · have d1 : (lj == lw) = false := by simpa using he
                      have d2 : decide (lj = lw) = false := decide_eq_false he
                      have HD := hide d1
                      go_wp2_with fail
                      try go_quiet (fail)
                      go_wp2_with fail
                      go_roundw
                      case rel => exact ⟨j + 1, by simp, h4, by rw [unhide HAT]; simp [unhide HD], by repeat (first | exact unhide HSM | refine Same.drew ?_ | refine Same.dnz ?_ _)⟩
                      case measure => simp only [intOf]; omega
                · have mz : decide ((j : Int) < (lN : Int)) = false := decide_eq_false (by omega)
                  have HE : Hid (((ls.take j).any fun l => l == lw) = islv s lw) := hide (by rw [List.take_of_length_le (by rw [unhide HLVL]; omega), unhide HIS])
                  have HSB : Hid (Below Wc.heap.size Wc wr) := hide hsm.bel
                  have HZMj := hide ((unhide HZMi).bel (unhide HSB))
                  have HZKj := hide ((unhide HZKi).step ((unhide HSB).mono (by have := (unhide HZKi).bel.size; omega)) ((unhide HSB).block gl hgls))
                  have hglj : gl < wr.heap.size := Nat.lt_of_lt_of_le hgls (unhide HSB).size
                  rw [unhide HE]
                  clear hsm HSM HE
                  cases hb : islv s lw with
                  | true =>
                    have HSn : Hid (Zn = Zo) := hide (by rw [unhide HS, hb]; rfl)
                    clear HS HIS hb
                    go_wp2_with fail
                    go_roundw
                    case rel => exact ⟨x + 1, by simp, h3, by rw [unhide HZNE, unhide HSn]; repeat (first | exact unhide HZMj | refine Zm.drew ?_ | refine Zm.dn ?_ _), by repeat (first | exact unhide HZKj | refine Zk.drew ?_ | refine Zk.dn ?_ _)⟩
                    case measure => simp only [intOf]; omega
                  | false =>
                    have HSn : Hid (Zn = zst W H r Zo (x, y, lw)) := hide (by rw [unhide HS, hb]; rfl)
                    clear HS HIS hb
                    go_wp2_with fail
                    refine (unhide HCALL _ (by first | exact hglj | simpa using hglj) (by repeat (first | exact unhide HZMj | refine Zm.drew ?_ | refine Zm.dn ?_ _))).mono ?_
                    rintro e W7 ⟨rfl, hz7, hb7, hl7⟩
                    have HZ7 := hide hz7
                    have HK7 : Hid (Zk B gl W5 W7) := hide (Zk.step (by repeat (first | exact unhide HZKj | refine Zk.drew ?_ | refine Zk.dn ?_ _)) hb7 hl7)
                    clear hz7 hb7 hl7
                    go_wp2_with fail
                    go_roundw
                    case rel => exact ⟨x + 1, by simp, h3, by rw [unhide HZNE, unhide HSn]; repeat (first | exact unhide HZ7 | refine Zm.drew ?_ | refine Zm.dn ?_ _), by repeat (first | exact unhide HK7 | refine Zk.drew ?_ | refine Zk.dn ?_ _)⟩
                    case measure => simp only [intOf]; omega
            · have lz : decide ((x : Int) < (W : Int)) = false := decide_eq_false (by omega)
              have HZn : Hid (Zm wr B gb gt gl n ct W H r c' (some ⟨g', po', none⟩) (ZR (kn + (y + 1) * W))) := hide (by
                rw [unhide HY1]
                have h9 := unhide HZMi
                rw [show x = W by omega] at h9
                exact h9)
              go_wp2_with fail
              go_roundw
              case rel => exact ⟨y + 1, by simp, h2, by repeat (first | exact unhide HZn | refine Zm.drew ?_ | refine Zm.dn ?_ _), by repeat (first | exact unhide HZKi | refine Zk.drew ?_ | refine Zk.dn ?_ _)⟩
              case measure => simp only [intOf]; omega
        · have jz : decide ((y : Int) < (H : Int)) = false := decide_eq_false (by omega)
          have HZn : Hid (Zm wr B gb gt gl n ct W H r c' (some ⟨g', po', none⟩) (ZR (cnC W H s))) := hide (by
            rw [unhide HCC]
            have h9 := unhide HZMy
            rw [show y = H by omega, ← unhide HHW] at h9
            exact h9)
          have HBL : Hid (Below w.heap.size w wr) := hide ((unhide HB5).trans ((unhide HZKy).bel.mono (unhide HWB)))
          obtain ⟨v, hv, hmv, _⟩ := (unhide HZn).out
          generalize ZR (cnC W H s) = Zf at *
          obtain ⟨gv, cv, rfl⟩ := Mvs.slc hmv (by omega)
          have HMV := hide hmv
          have c6 := hv.cell (m := 6) rfl
          clear hmv hv
          by_cases ho : 2000 < 1 + 4 * Zf.ps.length
          · have o1 : decide ((2000 : Int) < ((1 + 4 * Zf.ps.length : Nat) : Int)) = true := decide_eq_true (by omega)
            have HZE' : Hid (2000 < 1 + 4 * (zzL W H r s A LL).length) := hide (by
              rcases unhide HZE with ⟨h8, h9⟩ | ⟨h8, h9⟩
              · rw [h9] at ho; omega
              · exact h8)
            have HMM := hide (mvs_made wr w.heap.size wr.heap.size (unhide HBL).size rfl)
            have HBM := hide (ba (unhide HBL) (.cells #[] 65))
            generalize 1 + 4 * Zf.ps.length = M at *
            clear HMV
            go_wp2_with fail
            exact bodyPost_ret (v := .tuple #[.slice (some ⟨wr.heap.size, 0, none⟩) 0 0, .int .i64 18]) (by simp [results, Try.results10, go_sem]) rfl ⟨⟨_, _, rfl, .inr ⟨unhide HZE', rfl, unhide HMM⟩⟩, unhide HBM⟩
          · have o1 : decide ((2000 : Int) < ((1 + 4 * Zf.ps.length : Nat) : Int)) = false := decide_eq_false (by omega)
            have HZE' : Hid (Zf.ps = zzL W H r s A LL) := hide (by
              rcases unhide HZE with ⟨h8, h9⟩ | ⟨h8, h9⟩
              · exact h9
              · omega)
            rw [unhide HZE'] at o1 HMV c6 ho
            have HO := hide (show 1 + 4 * (zzL W H r s A LL).length ≤ 2000 by omega)
            have HMV' : Hid (Mvs wr w.heap.size (.slice (some ⟨gv, 0, none⟩) (1 + 4 * (zzL W H r s A LL).length) cv) (1 + 4 * (zzL W H r s A LL).length) (zcs (zzL W H r s A LL) (zzL W H r s A LL).length)) := hide (by
              have h9 := unhide HMV
              refine ⟨h9.1, ?_⟩
              rcases h9.2 with h1 | ⟨g9, cap9, cur9, hv9, hB9, r9⟩
              · exact .inl h1
              · exact .inr ⟨g9, cap9, cur9, hv9, Nat.le_trans (unhide HWB) hB9, r9⟩)
            obtain ⟨M, hM⟩ : ∃ M, 1 + 4 * (zzL W H r s A LL).length = M := ⟨_, rfl⟩
            rw [hM] at o1 c6 HMV' HO
            have HHM := hide hM
            clear HMV hM ho
            go_wp2_with fail
            refine bodyPost_ret (v := .tuple #[.slice (some ⟨gv, 0, none⟩) M cv, .int .i64 0]) (by simp [results, Try.results10, go_sem]) rfl ⟨⟨_, _, rfl, .inl ⟨?_, rfl, ?_⟩⟩, unhide HBL⟩
            · rw [unhide HHM]; exact unhide HO
            · rw [unhide HHM]; exact unhide HMV'
end Go.Proofs.Ytjhldjojkaphkaa

namespace Go.Proofs.Ytjhldjojkaphkaa
open Go.ChangeShapes Go.WideShapes Go.ChangeAt Go.RowKit
set_option linter.unusedVariables false
set_option linter.unusedSimpArgs false

set_option maxRecDepth 100000 in
set_option maxHeartbeats 4000000 in
theorem zgM_bad (W H : Int) (u : Option Addr) (p po n c : Nat) (A : List Int) (W' H' : Int) (u' : Option Addr) (p' po' n' c' : Nat) (P : List Int) (r s : Int) (w : World)
    (hb : (stB W H A W' H' P && (decide (0 ≤ r) && decide (r ≤ 3))) = false ∨ ((stB W H A W' H' P && (decide (0 ≤ r) && decide (r ≤ 3))) = true ∧ (s < 1 ∨ (¬ s < 1 ∧ 24 < s))))
    (hl : A.length = n) (hn : n ≤ 9223372036854775807) (hu : Its w u p po A) (hl' : P.length = n') (hn' : n' ≤ 9223372036854775807) (hu' : Its w u' p' po' P) :
    Calls Try.prog 10 #[fldV W H u n c, fldV W' H' u' n' c', .int .i64 r, .int .i64 s] w fun e w' => (∃ v, e = .returned (.tuple #[v, .int .i64 1]) ∧ Mvs w' w.heap.size v 0 []) ∧ Below w.heap.size w w' := by
  have hbl : Below w.heap.size w ((w.alloc (.cells #[.int .i64 W, .int .i64 H, .slice u n c] 25)).alloc (.cells #[.int .i64 W', .int .i64 H', .slice u' n' c'] 25)) := ba (ba (Below.refl _ _) _) _
  have HB0 := hide hbl
  have HP := hide (prM_any r W H u p po n c A W' H' u' p' po' n' c' P _ hl hn (hu.bel hbl) hl' hn' (hu'.bel hbl))
  unfold fldV at *
  rcases hb with hb | ⟨hb, h1 | ⟨h1, h2⟩⟩
  · rw [hb] at HP
    clear hu hu' hb hbl
    go_enter Try.func10, Try.ntmps10
    go_wp2_with fail
    refine (unhide HP).mono ?_
    rintro e W1 ⟨rfl, hb1⟩
    have HB1 := hide (bc (unhide HB0) hb1)
    have HM := hide (mvs_made W1 w.heap.size W1.heap.size (unhide HB1).size rfl)
    have HBA := hide (ba (unhide HB1) (.cells #[] 65))
    clear hb1 HB0 HP
    go_wp2_with fail
    exact bodyPost_ret (v := .tuple #[.slice (some ⟨W1.heap.size, 0, none⟩) 0 0, .int .i64 1]) (by simp [results, Try.results10, go_sem]) rfl ⟨⟨_, rfl, unhide HM⟩, unhide HBA⟩
  · rw [hb] at HP
    have s1 : decide (s < 1) = true := decide_eq_true h1
    clear hu hu' hb hbl
    go_enter Try.func10, Try.ntmps10
    go_wp2_with fail
    refine (unhide HP).mono ?_
    rintro e W1 ⟨rfl, hb1⟩
    have HB1 := hide (bc (unhide HB0) hb1)
    have HM := hide (mvs_made W1 w.heap.size W1.heap.size (unhide HB1).size rfl)
    have HBA := hide (ba (unhide HB1) (.cells #[] 65))
    clear hb1 HB0 HP
    go_wp2_with fail
    exact bodyPost_ret (v := .tuple #[.slice (some ⟨W1.heap.size, 0, none⟩) 0 0, .int .i64 1]) (by simp [results, Try.results10, go_sem]) rfl ⟨⟨_, rfl, unhide HM⟩, unhide HBA⟩
  · rw [hb] at HP
    have s1 : decide (s < 1) = false := decide_eq_false h1
    have s2 : decide (24 < s) = true := decide_eq_true h2
    clear hu hu' hb hbl
    go_enter Try.func10, Try.ntmps10
    go_wp2_with fail
    refine (unhide HP).mono ?_
    rintro e W1 ⟨rfl, hb1⟩
    have HB1 := hide (bc (unhide HB0) hb1)
    have HM := hide (mvs_made W1 w.heap.size W1.heap.size (unhide HB1).size rfl)
    have HBA := hide (ba (unhide HB1) (.cells #[] 65))
    clear hb1 HB0 HP
    go_wp2_with fail
    exact bodyPost_ret (v := .tuple #[.slice (some ⟨W1.heap.size, 0, none⟩) 0 0, .int .i64 1]) (by simp [results, Try.results10, go_sem]) rfl ⟨⟨_, rfl, unhide HM⟩, unhide HBA⟩
end Go.Proofs.Ytjhldjojkaphkaa

namespace Go.Proofs.Ytjhldjojkaphkaa
open Go.ChangeShapes Go.WideShapes Go.ChangeAt Go.RowKit
set_option linter.unusedVariables false
set_option linter.unusedSimpArgs false

/-- a move -/
structure Mve where
  f : Bool
  x : Int
  y : Int
  z : Int
def flat4 : List Mve → List Value
  | [] => []
  | m :: ms => .bool m.f :: .int .i64 m.x :: .int .i64 m.y :: .int .i64 m.z :: flat4 ms
theorem flat4_len (ms : List Mve) : (flat4 ms).length = ms.length * 4 := by
  induction ms with
  | nil => rfl
  | cons l ms ih => simp only [flat4, List.length_cons, ih]; omega
theorem flat4_append (a b : List Mve) : flat4 (a ++ b) = flat4 a ++ flat4 b := by
  induction a with
  | nil => rfl
  | cons l a ih => simp only [List.cons_append, flat4, ih]
theorem flat4_at {ms : List Mve} {i : Nat} {l : Mve} (h : ms[i]? = some l) :
    (flat4 ms)[i * 4]? = some (.bool l.f) ∧ (flat4 ms)[i * 4 + 1]? = some (.int .i64 l.x) ∧ (flat4 ms)[i * 4 + 2]? = some (.int .i64 l.y) ∧ (flat4 ms)[i * 4 + 3]? = some (.int .i64 l.z) := by
  induction ms generalizing i with
  | nil => cases h
  | cons x ms ih =>
    cases i with
    | zero =>
      simp only [List.getElem?_cons_zero, Option.some.injEq] at h
      subst h
      exact ⟨rfl, rfl, rfl, rfl⟩
    | succ i =>
      have := ih (i := i) (by simpa using h)
      rw [show (i + 1) * 4 = i * 4 + 4 by omega]
      exact this
theorem flat4_set (ms : List Mve) (i : Nat) (l : Mve) (h : i < ms.length) :
    flat4 (ms.set i l) = ((((flat4 ms).set (i * 4) (.bool l.f)).set (i * 4 + 1) (.int .i64 l.x)).set (i * 4 + 2) (.int .i64 l.y)).set (i * 4 + 3) (.int .i64 l.z) := by
  induction ms generalizing i with
  | nil => simp at h
  | cons x ms ih =>
    cases i with
    | zero => rfl
    | succ i =>
      have e := ih i (by simpa using h)
      rw [show (i + 1) * 4 = i * 4 + 4 by omega]
      simp only [List.set_cons_succ, flat4, e]
def mvs4 (x oy y z : Int) : List Mve := [⟨true, x, oy, 24⟩, ⟨true, x, y, 24⟩, ⟨false, x, y, z⟩, ⟨true, x, y, 24⟩]
def zmv (ps : List (Nat × Nat × Int)) : Nat → List Mve
  | 0 => [⟨true, 0, 0, 24⟩]
  | k + 1 => zmv ps k ++ mvs4 ((ps.getD k (0, 0, 0)).1 : Int) (zoy ps k) ((ps.getD k (0, 0, 0)).2.1 : Int) (ps.getD k (0, 0, 0)).2.2
theorem zcs_flat (ps : List (Nat × Nat × Int)) : ∀ k, zcs ps k = flat4 (zmv ps k)
  | 0 => rfl
  | k + 1 => by
    rw [zcs, zmv, flat4_append, zcs_flat ps k]
    rfl
theorem zmv_len (ps : List (Nat × Nat × Int)) : ∀ k, (zmv ps k).length = 1 + 4 * k
  | 0 => rfl
  | k + 1 => by rw [zmv, List.length_append, zmv_len ps k]; simp [mvs4]; omega
/-- a row of moves of one's own -/
def Mrow (w : World) (B : Nat) (v : Value) (n : Nat) (ms : List Mve) : Prop := Mvs w B v n (flat4 ms)
theorem Mrow.len {w : World} {B n : Nat} {v : Value} {ms : List Mve} (h : Mrow w B v n ms) : ms.length = n := by
  have := h.1
  rw [flat4_len] at this
  omega
theorem Mvs.cellV {w : World} {B g n cap : Nat} {cs : List Value} (h : Mvs w B (.slice (some ⟨g, 0, none⟩) n cap) n cs) {j : Nat} {x : Value} (hj : cs[j]? = some x) : w.cell? ⟨g, j, none⟩ = some x := by
  rcases h.2 with ⟨h1, _⟩ | ⟨g', cap', cur, hv', hB, hh, hn, hx, hs, ht⟩
  · cases h1
  · cases hv'
    have h1 : (cur.toList.take (n * 4))[j]? = some x := by rw [ht]; exact hj
    simp only [World.cell?]
    rw [hh]
    rw [List.getElem?_take] at h1
    split at h1
    · simpa using h1
    · cases h1
theorem Mrow.at {w : World} {B g n cap : Nat} {ms : List Mve} (h : Mrow w B (.slice (some ⟨g, 0, none⟩) n cap) n ms) {i : Nat} {l : Mve} (hi : ms[i]? = some l) :
    w.cell? ⟨g, i * 4, none⟩ = some (.bool l.f) ∧ w.cell? ⟨g, i * 4 + 1, none⟩ = some (.int .i64 l.x) ∧ w.cell? ⟨g, i * 4 + 2, none⟩ = some (.int .i64 l.y) ∧ w.cell? ⟨g, i * 4 + 3, none⟩ = some (.int .i64 l.z) := by
  obtain ⟨h0, h1, h2, h3⟩ := flat4_at hi
  exact ⟨Mvs.cellV h h0, Mvs.cellV h h1, Mvs.cellV h h2, Mvs.cellV h h3⟩
theorem Mvs.frz {w : World} {B g n cap : Nat} {cs : List Value} (h : Mvs w B (.slice (some ⟨g, 0, none⟩) n cap) n cs) (o : Nat) : w.frozen? ⟨g, o, none⟩ = false := by
  rcases h.2 with ⟨h1, h2⟩ | ⟨g', cap', cur, hv, hB, hh, r⟩
  · cases h1
  · cases hv
    simp only [World.frozen?]
    rw [hh]
    simp
theorem Mvs.set {w : World} {B g n cap : Nat} {cs : List Value} (h : Mvs w B (.slice (some ⟨g, 0, none⟩) n cap) n cs) (j : Nat) (x : Value) :
    Mvs (w.setCell ⟨g, j, none⟩ x) B (.slice (some ⟨g, 0, none⟩) n cap) n (cs.set j x) := by
  refine ⟨by have := h.1; simpa using this, ?_⟩
  rcases h.2 with ⟨h1, h2⟩ | ⟨g', cap', cur, hv, hB, hh, hn, hm, hs, ht⟩
  · cases h1
  · cases hv
    refine .inr ⟨g, cap, cur.setIfInBounds j x, rfl, hB, ?_, hn, hm, by simp [hs], ?_⟩
    · show (w.heap.modify g _)[g]? = _
      rw [Array.getElem?_modify, if_pos rfl, hh]
      simp
    · rw [Array.toList_setIfInBounds, List.take_set, ht]
theorem Mvs.bel {w w' : World} {B n : Nat} {v : Value} {cs : List Value} (h : Mvs w B v n cs) (hb : Below w.heap.size w w') : Mvs w' B v n cs := h.kept (fun g hg => hb.block g (h.lt g hg).2)
theorem Mrow.full {w : World} {B n : Nat} {v : Value} {ms : List Mve} (h : Mrow w B v n ms) (hn : n ≠ 0) : ∃ g cap, v = .slice (some ⟨g, 0, none⟩) n cap ∧ B ≤ g ∧ g < w.heap.size := by
  rcases h.2 with ⟨_, h1⟩ | ⟨g, cap, cur, hv, hB, hh, r⟩
  · exact absurd h1 hn
  · exact ⟨g, cap, hv, hB, (Array.getElem?_eq_some_iff.1 hh).1⟩
/-- what a mark writes -/
def mkM (k : Int) : Mve := ⟨k % 3 == 0, k + 1, k + 2, k + 3⟩
def mksM (k : Int) : Nat → List Mve
  | 0 => []
  | i + 1 => mksM k i ++ [mkM (k + 4 * (i : Int))]
theorem mksM_len (k : Int) (i : Nat) : (mksM k i).length = i := by
  induction i with
  | zero => rfl
  | succ i ih => simp [mksM, ih]
theorem mksM_at (k : Int) : ∀ (n i : Nat), i < n → (mksM k n)[i]? = some (mkM (k + 4 * (i : Int)))
  | 0, i, h => by omega
  | n + 1, i, h => by
    rw [mksM]
    by_cases hi : i < n
    · rw [List.getElem?_append_left (by rw [mksM_len]; exact hi)]
      exact mksM_at k n i hi
    · have : i = n := by omega
      subst this
      rw [List.getElem?_append_right (by rw [mksM_len]; exact Nat.le_refl _), mksM_len, Nat.sub_self]
      rfl
/-- all of a row is written over -/
def overM (ms : List Mve) (k : Int) (i : Nat) : List Mve := mksM k i ++ ms.drop i
theorem overM_len (ms : List Mve) (k : Int) {i : Nat} (h : i ≤ ms.length) : (overM ms k i).length = ms.length := by simp [overM, mksM_len]; omega
theorem overM_at {ms : List Mve} (k : Int) {i : Nat} {m : Mve} (h : ms[i]? = some m) : (overM ms k i)[i]? = some m := by
  unfold overM
  rw [List.getElem?_append_right (by rw [mksM_len]; exact Nat.le_refl _), mksM_len, Nat.sub_self, List.getElem?_drop, Nat.add_zero]
  exact h
theorem overM_step {ms : List Mve} (k : Int) {i : Nat} (h : i < ms.length) : (overM ms k i).set i (mkM (k + 4 * (i : Int))) = overM ms k (i + 1) := by
  unfold overM
  rw [List.set_append, if_neg (by rw [mksM_len]; omega), mksM_len, Nat.sub_self, mksM, List.append_assoc]
  congr 1
  rw [List.drop_eq_getElem_cons h]
  rfl
end Go.Proofs.Ytjhldjojkaphkaa

namespace Go.Proofs.Ytjhldjojkaphkaa
open Go.ChangeShapes Go.WideShapes Go.ChangeAt Go.RowKit
set_option linter.unusedVariables false
set_option linter.unusedSimpArgs false

theorem mvE_one (s : Bool) (a b c : Int) (w : World) : Calls Try.prog 60 #[.agg #[.bool s, .int .i64 a, .int .i64 b, .int .i64 c], .agg #[.bool s, .int .i64 a, .int .i64 b, .int .i64 c]] w fun e w' => e = .returned (.bool true) ∧ Below w.heap.size w w' := by
  cases s <;>
  · go_enter Try.func60, Try.ntmps60
    go_wp2
    go_ret
    exact ⟨rfl, ba (ba (Below.refl _ _) _) _⟩
theorem Mrow.form {w : World} {B n : Nat} {v : Value} {ms : List Mve} (h : Mrow w B v n ms) : ∃ (u : Option Addr) (cap : Nat), v = .slice u n cap ∧ (n ≠ 0 → u = some ⟨bo u, 0, none⟩ ∧ B ≤ bo u ∧ bo u < w.heap.size) := by
  rcases h.2 with ⟨h1, h2⟩ | ⟨g, cap, cur, hv, hB, hh, r⟩
  · subst h2
    exact ⟨none, 0, h1, fun h => absurd rfl h⟩
  · exact ⟨_, cap, hv, fun _ => ⟨rfl, hB, (Array.getElem?_eq_some_iff.1 hh).1⟩⟩
theorem Mrow.bel {w w' : World} {B n : Nat} {v : Value} {ms : List Mve} (h : Mrow w B v n ms) (hb : Below w.heap.size w w') : Mrow w' B v n ms := Mvs.bel h hb
set_option maxHeartbeats 1000000 in
theorem mv_same (u v : Option Addr) (B B' n cu cv : Nat) (ms : List Mve) (w : World) (hn : n ≤ 1844674407370955161)
    (hu : Mrow w B (.slice u n cu) n ms) (hv : Mrow w B' (.slice v n cv) n ms) :
    Calls Try.prog 23 #[.slice u n cu, .slice v n cv] w fun e w' => e = .returned (.bool true) ∧ Below w.heap.size w w' := by
  have HL := hide hu.len
  have HU := hide hu
  have HV := hide hv
  have HFU : Hid (n ≠ 0 → u = some ⟨bo u, 0, none⟩) := hide (by
    obtain ⟨u', c', h1, h2⟩ := hu.form
    cases h1
    exact fun h => (h2 h).1)
  have HFV : Hid (n ≠ 0 → v = some ⟨bo v, 0, none⟩) := hide (by
    obtain ⟨u', c', h1, h2⟩ := hv.form
    cases h1
    exact fun h => (h2 h).1)
  clear hu hv
  go_enter Try.func23, Try.ntmps23
  go_wp2
  go_loopw [5] (fun s W => ∃ i : Nat, s = .int .i64 (i : Int) ∧ i ≤ n ∧ Below w.heap.size w W) (fun s _ => n - (intOf s).toNat)
  case atStart => exact ⟨0, rfl, Nat.zero_le _, Below.refl _ _⟩
  case round =>
    obtain ⟨i, rfl, hi, hw⟩ := hrel
    have HW := hide hw
    clear hw
    by_cases h : i < n
    · have i1 : (i : Int) < (n : Int) := by omega
      have i0 : (0 : Int) ≤ (i : Int) := Int.natCast_nonneg _
      have iz : decide ((i : Int) < (n : Int)) = true := decide_eq_true i1
      obtain ⟨⟨s, a, b, c⟩, hx⟩ := get_some (unhide HL) h
      have eu := unhide HFU (by omega)
      have ev := unhide HFV (by omega)
      generalize bo u = p at eu
      generalize bo v = q at ev
      subst eu
      subst ev
      obtain ⟨k0, k1, k2, k3⟩ := ((unhide HU).bel (unhide HW)).at hx
      obtain ⟨l0, l1, l2, l3⟩ := ((unhide HV).bel (unhide HW)).at hx
      simp only at k0 k1 k2 k3 l0 l1 l2 l3
      clear hx
      go_wp2_with fail
      go_region_held3 (fun wx => wx.cell? ⟨p, i * 4, none⟩ = some (.bool s) ∧ wx.cell? ⟨p, i * 4 + 1, none⟩ = some (.int .i64 a) ∧ wx.cell? ⟨p, i * 4 + 2, none⟩ = some (.int .i64 b) ∧ wx.cell? ⟨p, i * 4 + 3, none⟩ = some (.int .i64 c) ∧ wx.cell? ⟨q, i * 4, none⟩ = some (.bool s) ∧ wx.cell? ⟨q, i * 4 + 1, none⟩ = some (.int .i64 a) ∧ wx.cell? ⟨q, i * 4 + 2, none⟩ = some (.int .i64 b) ∧ wx.cell? ⟨q, i * 4 + 3, none⟩ = some (.int .i64 c))
        (simp (maxDischargeDepth := 12) [go_sem, le1, lt1, *])
        (first
        | (go_at_call 60; refine (mvE_one _ _ _ _ _).mono ?_; rintro e w' ⟨rfl, hb⟩; have HB := hide hb; have y0 := keep1 hb (b := p) (o := _) (v := .bool s) k0; have y1 := keep1 hb (b := p) (o := _) (v := .int .i64 a) k1; have y2 := keep1 hb (b := p) (o := _) (v := .int .i64 b) k2; have y3 := keep1 hb (b := p) (o := _) (v := .int .i64 c) k3; have z0 := keep1 hb (b := q) (o := _) (v := .bool s) l0; have z1 := keep1 hb (b := q) (o := _) (v := .int .i64 a) l1; have z2 := keep1 hb (b := q) (o := _) (v := .int .i64 b) l2; have z3 := keep1 hb (b := q) (o := _) (v := .int .i64 c) l3; clear hb))
      all_goals
        go_wp2_with fail
        go_roundw
        case rel => exact ⟨i + 1, by simp, h, by repeat (first | exact unhide HW | refine bc ?_ (unhide HB) | refine Below.drew ?_)⟩
        case measure => simp only [intOf]; omega
    · have i1 : ¬ (i : Int) < (n : Int) := by omega
      have iz : decide ((i : Int) < (n : Int)) = false := decide_eq_false i1
      go_wp2_with fail
      go_ret
      exact ⟨rfl, unhide HW⟩
theorem Mrow.set {w : World} {B g n cap : Nat} {ms : List Mve} (h : Mrow w B (.slice (some ⟨g, 0, none⟩) n cap) n ms) (i : Nat) (hi : i < n) (l : Mve) :
    Mrow ((((w.setCell ⟨g, i * 4, none⟩ (.bool l.f)).setCell ⟨g, i * 4 + 1, none⟩ (.int .i64 l.x)).setCell ⟨g, i * 4 + 2, none⟩ (.int .i64 l.y)).setCell ⟨g, i * 4 + 3, none⟩ (.int .i64 l.z)) B (.slice (some ⟨g, 0, none⟩) n cap) n (ms.set i l) := by
  unfold Mrow
  rw [flat4_set _ _ _ (by rw [h.len]; exact hi)]
  exact (((Mvs.set h _ _).set _ _).set _ _).set _ _
set_option maxHeartbeats 1000000 in
theorem mv_markR (B n : Nat) (v : Value) (ms : List Mve) (k : Int) (w : World) (hn : n ≤ 1048576) (k0 : 0 ≤ k) (k1 : k ≤ 8000000) (hr : Mrow w B v n ms) :
    Calls Try.prog 26 #[v, .int .i64 k] w fun e w' => e = .returned (.int .i64 (k + 4 * (n : Int))) ∧ Mrow w' B v n (mksM k n) ∧ Below B w w' := by
  by_cases hz : n = 0
  · subst hz
    obtain ⟨u, cap, rfl, _⟩ := hr.form
    have HR := hide hr
    have hml := hr.len
    have iz : decide ((0 : Int) < ((0 : Nat) : Int)) = false := by decide
    clear hr
    go_enter Try.func26, Try.ntmps26
    go_wp2
    go_loopw [1, 5] (fun s t W => s = .int .i64 k ∧ t = .int .i64 0 ∧ W = w) (fun _ s _ => 0)
    case atStart => exact ⟨rfl, rfl, rfl⟩
    case round =>
      obtain ⟨rfl, rfl, rfl⟩ := hrel
      go_wp2_with fail
      go_ret
      refine ⟨ret_int (by simp), ?_, Below.refl _ _⟩
      have h1 := unhide HR
      have : ms = [] := List.eq_nil_of_length_eq_zero hml
      subst this
      exact h1
  · obtain ⟨g, cap, rfl, hB, hg⟩ := hr.full hz
    have HL := hide hr.len
    have HR0 := hide hr
    clear hr
    go_enter Try.func26, Try.ntmps26
    go_wp2_with fail
    go_loopw [1, 5] (fun s t W => ∃ i : Nat, s = .int .i64 (k + 4 * (i : Int)) ∧ t = .int .i64 (i : Int) ∧ i ≤ n ∧ Mrow W B (.slice (some ⟨g, 0, none⟩) n cap) n (overM ms k i) ∧ Below B w W) (fun _ s _ => n - (intOf s).toNat)
    case atStart => exact ⟨0, by simp, rfl, Nat.zero_le _, by simpa [overM, mksM] using unhide HR0, Below.refl _ _⟩
    case round =>
      obtain ⟨i, rfl, rfl, hi, hb, hw⟩ := hrel
      have HB := hide hb
      have HW := hide hw
      clear hb hw
      by_cases h : i < n
      · have i1 : (i : Int) < (n : Int) := by omega
        have i0 : (0 : Int) ≤ (i : Int) := Int.natCast_nonneg _
        have iz : decide ((i : Int) < (n : Int)) = true := decide_eq_true i1
        obtain ⟨m, hx⟩ := get_some (unhide HL) h
        obtain ⟨c0, c1, c2, c3⟩ := (unhide HB).at (overM_at k hx)
        have fz : ∀ o, wr.frozen? ⟨g, o, none⟩ = false := Mvs.frz (unhide HB)
        have HST := hide (overM_step (ms := ms) k (i := i) (by rw [unhide HL]; exact h))
        obtain ⟨f, x, y, z⟩ := m
        simp only at c0 c1 c2 c3
        clear hx
        obtain ⟨kk, hkk⟩ : ∃ kk : Int, k + 4 * (i : Int) = kk := ⟨_, rfl⟩
        rw [hkk] at HST ⊢
        have kk0 : 0 ≤ kk := by omega
        have kk1 : kk ≤ 12194304 := by omega
        have hm0 : 0 ≤ kk.tmod 3 := Int.tmod_nonneg _ kk0
        have hm1 : kk.tmod 3 < 3 := Int.tmod_lt_of_pos _ (by omega)
        have HKK := hide hkk
        have HMK : Hid (mkM kk = ⟨(kk % 3 == 0), kk + 1, kk + 2, kk + 3⟩) := hide rfl
        have wm : IntKind.i64.wrap (kk.tmod 3) = kk.tmod 3 := Go.IntWalk.i64_in _ ⟨by omega, by omega⟩
        obtain ⟨tm, htm⟩ : ∃ tm : Int, kk.tmod 3 = tm := ⟨_, rfl⟩
        have w1 : IntKind.i64.wrap (kk + 1) = kk + 1 := Go.IntWalk.i64_in _ ⟨by omega, by omega⟩
        have w2 : IntKind.i64.wrap (kk + 1 + 1) = kk + 2 := (Go.IntWalk.i64_in _ ⟨by omega, by omega⟩).trans (by omega)
        have w3 : IntKind.i64.wrap (kk + 2 + 1) = kk + 3 := (Go.IntWalk.i64_in _ ⟨by omega, by omega⟩).trans (by omega)
        have w4 : IntKind.i64.wrap (kk + 3 + 1) = kk + 4 := (Go.IntWalk.i64_in _ ⟨by omega, by omega⟩).trans (by omega)
        clear hkk htm
        go_wp2_with fail
        go_roundw
        case rel =>
          refine ⟨i + 1, by have := unhide HKK; simp only [Value.int.injEq, true_and]; omega, by simp, h, ?_, ?_⟩
          · rw [← unhide HST, unhide HMK]
            exact (unhide HB).set i h ⟨(kk % 3 == 0), kk + 1, kk + 2, kk + 3⟩
          · exact Below.setCell (Below.setCell (Below.setCell (Below.setCell (unhide HW) hB _) hB _) hB _) hB _
        case measure => simp only [intOf]; omega
      · have iz : decide ((i : Int) < (n : Int)) = false := decide_eq_false (by omega)
        have en : i = n := by omega
        subst en
        go_wp2_with fail
        go_ret
        refine ⟨rfl, ?_, unhide HW⟩
        have h1 := unhide HB
        unfold overM at h1
        rw [List.drop_eq_nil_of_le (by rw [unhide HL]; omega), List.append_nil] at h1
        exact h1
set_option maxHeartbeats 1000000 in
theorem mv_held (u : Option Addr) (B n cu : Nat) (k : Int) (w : World) (hn : n ≤ 1048576) (k0 : 0 ≤ k) (k1 : k ≤ 8000000) (hr : Mrow w B (.slice u n cu) n (mksM k n)) :
    Calls Try.prog 27 #[.slice u n cu, .int .i64 k] w fun e w' => e = .returned (.int .i64 (k + 4 * (n : Int))) ∧ Same w w' := by
  have HU := hide hr
  have HFU : Hid (n ≠ 0 → u = some ⟨bo u, 0, none⟩) := hide (by
    obtain ⟨u', c', h1, h2⟩ := hr.form
    cases h1
    exact fun h => (h2 h).1)
  clear hr
  go_enter Try.func27, Try.ntmps27
  go_wp2
  go_loopw [1, 5] (fun s t W => ∃ i : Nat, s = .int .i64 (k + 4 * (i : Int)) ∧ t = .int .i64 (i : Int) ∧ i ≤ n ∧ Same w W) (fun _ s _ => n - (intOf s).toNat)
  case atStart => exact ⟨0, by simp, rfl, Nat.zero_le _, Same.refl _⟩
  case round =>
    obtain ⟨i, rfl, rfl, hi, hw⟩ := hrel
    have HW := hide hw
    clear hw
    by_cases h : i < n
    · have i1 : (i : Int) < (n : Int) := by omega
      have i0 : (0 : Int) ≤ (i : Int) := Int.natCast_nonneg _
      have iz : decide ((i : Int) < (n : Int)) = true := decide_eq_true i1
      have eu := unhide HFU (by omega)
      generalize bo u = p at eu
      subst eu
      obtain ⟨c0, c1, c2, c3⟩ := ((unhide HU).bel (unhide HW).bel).at (mksM_at k n i h)
      unfold mkM at c0 c1 c2 c3
      simp only at c0 c1 c2 c3
      obtain ⟨kk, hkk⟩ : ∃ kk : Int, k + 4 * (i : Int) = kk := ⟨_, rfl⟩
      rw [hkk] at c0 c1 c2 c3 ⊢
      have kk0 : 0 ≤ kk := by omega
      have kk1 : kk ≤ 12194304 := by omega
      have hm0 : 0 ≤ kk.tmod 3 := Int.tmod_nonneg _ kk0
      have hm1 : kk.tmod 3 < 3 := Int.tmod_lt_of_pos _ (by omega)
      have hmt : kk % 3 = kk.tmod 3 := by rw [Int.tmod_eq_emod_of_nonneg kk0]
      have HKK := hide hkk
      have w1 : IntKind.i64.wrap (kk + 1) = kk + 1 := Go.IntWalk.i64_in _ ⟨by omega, by omega⟩
      have w2 : IntKind.i64.wrap (kk + 1 + 1) = kk + 2 := (Go.IntWalk.i64_in _ ⟨by omega, by omega⟩).trans (by omega)
      have w3 : IntKind.i64.wrap (kk + 2 + 1) = kk + 3 := (Go.IntWalk.i64_in _ ⟨by omega, by omega⟩).trans (by omega)
      have w4 : IntKind.i64.wrap (kk + 3 + 1) = kk + 4 := (Go.IntWalk.i64_in _ ⟨by omega, by omega⟩).trans (by omega)
      clear hkk
      by_cases hz : kk % 3 = 0
      · have z1 : (kk % 3 == 0) = true := by rw [hz]; rfl
        have z2 : (kk.tmod 3 == 0) = true := by rw [← hmt]; exact z1
        rw [z1] at c0
        go_wp2_with fail
        go_roundw
        case rel => exact ⟨i + 1, by have := unhide HKK; simp only [Value.int.injEq, true_and]; omega, by simp, h, by repeat (first | exact unhide HW | refine Same.drew ?_)⟩
        case measure => simp only [intOf]; omega
      · have z1 : (kk % 3 == 0) = false := by simpa using hz
        have z2 : (kk.tmod 3 == 0) = false := by rw [← hmt]; exact z1
        rw [z1] at c0
        go_wp2_with fail
        go_roundw
        case rel => exact ⟨i + 1, by have := unhide HKK; simp only [Value.int.injEq, true_and]; omega, by simp, h, by repeat (first | exact unhide HW | refine Same.drew ?_)⟩
        case measure => simp only [intOf]; omega
    · have i1 : ¬ (i : Int) < (n : Int) := by omega
      have iz : decide ((i : Int) < (n : Int)) = false := decide_eq_false i1
      have en : i = n := by omega
      subst en
      go_wp2_with fail
      go_ret
      exact ⟨rfl, unhide HW⟩
end Go.Proofs.Ytjhldjojkaphkaa

namespace Go.Proofs.Ytjhldjojkaphkaa
open Go.ChangeShapes Go.WideShapes Go.ChangeAt Go.RowKit
set_option linter.unusedVariables false
set_option linter.unusedSimpArgs false

theorem Mrow.mono {w : World} {B B' n : Nat} {v : Value} {ms : List Mve} (h : Mrow w B v n ms) (hb : B' ≤ B) : Mrow w B' v n ms := by
  refine ⟨h.1, ?_⟩
  rcases h.2 with h1 | ⟨g, cap, cur, hv, hB, r⟩
  · exact .inl h1
  · exact .inr ⟨g, cap, cur, hv, Nat.le_trans hb hB, r⟩
noncomputable def reg5 (id : Nat) : Go.Code := match Try.f5.body with | some c => (regOf id c).getD .skip | none => .skip

set_option maxHeartbeats 4000000 in
set_option maxRecDepth 100000 in
theorem zq8 {s0 s1 s6 s7 s8 s9 s10 s11 s12 s13 s14 s15 s16 s17 s18 s19 s20 s21 s22 s23 s24 s25 s26 s27 s28 s29 s30 s31 s32 s33 s34 s35 s36 s37 s38 s39 s40 s41 s42 s43 s44 s45 s46 s47 s48 s49 s50 s51 s52 s53 s54 s55 s56 s57 s58 s59 s60 s61 s62 s63 s64 s65 s66 s67 s68 s69 s70 s71 s72 s73 s74 s75 s76 s77 s78 s79 s80 s81 s82 s83 s84 s85 s86 s87 s88 s89 s90 s91 s92 s93 s94 s95 s96 s97 s98 s99 s100 s101 s102 s103 s104 s105 s106 s107 s108 s109 s110 s111 s112 s113 s114 s115 s116 s117 s118 s119 s120 s121 s122 s123 s124 s125 s126 s127 s128 : Value} {Ws Hs Wp Hp R S_ E : Int} {us up : Option Addr} {ns cs np cp m b4 b5 : Nat} {S T : List Int} {ms : List Mve} {V : World} {K_ : Act → World → Prop}
    (HS : Hid (vb V b4 49 [.int .i64 Ws, .int .i64 Hs, .slice us ns cs])) (HP : Hid (vb V b5 49 [.int .i64 Wp, .int .i64 Hp, .slice up np cp]))
    (HTS : Hid (∀ X, Below V.heap.size V X → Calls Try.prog 22 #[.agg #[.int .i64 Ws, .int .i64 Hs, .slice us ns cs]] X fun e w' => (∃ g, e = .returned (.agg #[.int .i64 Ws, .int .i64 Hs, .slice (some ⟨g, 0, none⟩) ns ns]) ∧ X.heap.size ≤ g ∧ iblk w' g 3 S) ∧ Below X.heap.size X w'))
    (HTP : Hid (∀ X, Below V.heap.size V X → Calls Try.prog 22 #[.agg #[.int .i64 Wp, .int .i64 Hp, .slice up np cp]] X fun e w' => (∃ g, e = .returned (.agg #[.int .i64 Wp, .int .i64 Hp, .slice (some ⟨g, 0, none⟩) np np]) ∧ X.heap.size ≤ g ∧ iblk w' g 3 T) ∧ Below X.heap.size X w'))
    (HM : Hid (∀ (g1 g2 : Nat) (X : World), iblk X g1 3 S → iblk X g2 3 T → Calls Try.prog 10 #[.agg #[.int .i64 Ws, .int .i64 Hs, .slice (some ⟨g1, 0, none⟩) ns ns], .agg #[.int .i64 Wp, .int .i64 Hp, .slice (some ⟨g2, 0, none⟩) np np], .int .i64 R, .int .i64 S_] X fun e w' => (∃ v, e = .returned (.tuple #[v, .int .i64 E]) ∧ Mrow w' X.heap.size v m ms) ∧ Below X.heap.size X w'))
    (hQ : ∀ (y32 y33 y34 y35 y36 y37 y38 y31 y39 y40 : Value) (v : Value) (W' : World), Below V.heap.size V W' → Mrow W' V.heap.size v m ms → K_ { tmps := #[s0, s1, .int .i64 (R), .int .i64 (S_), .pointer (some ⟨b4, 0, none⟩), .pointer (some ⟨b5, 0, none⟩), s6, s7, s8, s9, v, .int .i64 (E), s12, s13, s14, s15, s16, s17, s18, s19, s20, s21, s22, s23, s24, s25, s26, s27, s28, s29, s30, y31, y32, y33, y34, y35, y36, y37, y38, y39, y40, s41, s42, s43, s44, s45, s46, s47, s48, s49, s50, s51, s52, s53, s54, s55, s56, s57, s58, s59, s60, s61, s62, s63, s64, s65, s66, s67, s68, s69, s70, s71, s72, s73, s74, s75, s76, s77, s78, s79, s80, s81, s82, s83, s84, s85, s86, s87, s88, s89, s90, s91, s92, s93, s94, s95, s96, s97, s98, s99, s100, s101, s102, s103, s104, s105, s106, s107, s108, s109, s110, s111, s112, s113, s114, s115, s116, s117, s118, s119, s120, s121, s122, s123, s124, s125, s126, s127, s128], defers := [] } W') :
    Go.Code.wp Try.prog (reg5 8) (Only K_) { tmps := #[s0, s1, .int .i64 (R), .int .i64 (S_), .pointer (some ⟨b4, 0, none⟩), .pointer (some ⟨b5, 0, none⟩), s6, s7, s8, s9, s10, s11, s12, s13, s14, s15, s16, s17, s18, s19, s20, s21, s22, s23, s24, s25, s26, s27, s28, s29, s30, s31, s32, s33, s34, s35, s36, s37, s38, s39, s40, s41, s42, s43, s44, s45, s46, s47, s48, s49, s50, s51, s52, s53, s54, s55, s56, s57, s58, s59, s60, s61, s62, s63, s64, s65, s66, s67, s68, s69, s70, s71, s72, s73, s74, s75, s76, s77, s78, s79, s80, s81, s82, s83, s84, s85, s86, s87, s88, s89, s90, s91, s92, s93, s94, s95, s96, s97, s98, s99, s100, s101, s102, s103, s104, s105, s106, s107, s108, s109, s110, s111, s112, s113, s114, s115, s116, s117, s118, s119, s120, s121, s122, s123, s124, s125, s126, s127, s128], defers := [] } V := by
  have HQ := hide hQ
  clear hQ
  conv => arg 2; whnf
  refine wp_region_inv2 (fun Lb A W => ∃ (u0 u1 u2 u3 u4 u5 u6 u7 u8 u9 u10 u11 : Bool) (g1 : Nat) (g2 : Nat) (v : Value), Lb = #[u0, u1, u2, u3, u4, u5, u6, u7, u8, u9, u10, u11] ∧ A = ({ tmps := #[s0, s1, .int .i64 (R), .int .i64 (S_), .pointer (some ⟨b4, 0, none⟩), .pointer (some ⟨b5, 0, none⟩), s6, s7, s8, s9, (bif u10 then v else s10), (bif u11 then .int .i64 (E) else s11), s12, s13, s14, s15, s16, s17, s18, s19, s20, s21, s22, s23, s24, s25, s26, s27, s28, s29, s30, (bif u7 then .tuple #[v, .int .i64 (E)] else s31), (bif u0 then .agg #[.int .i64 Ws, .int .i64 Hs, .slice us ns cs] else s32), (bif u1 then .agg #[.int .i64 Ws, .int .i64 Hs, .slice (some ⟨g1, 0, none⟩) ns ns] else s33), (bif u2 then .agg #[.int .i64 Wp, .int .i64 Hp, .slice up np cp] else s34), (bif u3 then .agg #[.int .i64 Wp, .int .i64 Hp, .slice (some ⟨g2, 0, none⟩) np np] else s35), (bif u4 then .int .i64 (R) else s36), (bif u5 then .int .i64 (S_) else s37), (bif u6 then .tuple #[v, .int .i64 (E)] else s38), (bif u8 then v else s39), (bif u9 then .int .i64 (E) else s40), s41, s42, s43, s44, s45, s46, s47, s48, s49, s50, s51, s52, s53, s54, s55, s56, s57, s58, s59, s60, s61, s62, s63, s64, s65, s66, s67, s68, s69, s70, s71, s72, s73, s74, s75, s76, s77, s78, s79, s80, s81, s82, s83, s84, s85, s86, s87, s88, s89, s90, s91, s92, s93, s94, s95, s96, s97, s98, s99, s100, s101, s102, s103, s104, s105, s106, s107, s108, s109, s110, s111, s112, s113, s114, s115, s116, s117, s118, s119, s120, s121, s122, s123, s124, s125, s126, s127, s128], defers := [] } : Act) ∧ Below V.heap.size V W ∧ (u1 = true → iblk W g1 3 S) ∧ (u3 = true → iblk W g2 3 T) ∧ (u6 = true → Mrow W V.heap.size v m ms) ∧ (u1 = true → u0 = true) ∧ (u3 = true → u2 = true) ∧ (u6 = true → u1 = true ∧ u3 = true ∧ u4 = true ∧ u5 = true) ∧ (u7 = true → u6 = true) ∧ (u8 = true → u7 = true) ∧ (u9 = true → u7 = true) ∧ (u10 = true → u8 = true) ∧ (u11 = true → u0 = true ∧ u1 = true ∧ u2 = true ∧ u3 = true ∧ u4 = true ∧ u5 = true ∧ u6 = true ∧ u7 = true ∧ u8 = true ∧ u9 = true ∧ u10 = true)) (by kernel_rfl) (by kernel_rfl) ?h0 ?hstep ?hend
  case h0 =>
    exact ⟨false, false, false, false, false, false, false, false, false, false, false, false, 0, 0, undef, rfl, rfl, Below.drew (Below.refl _ _), (fun h => nomatch h), (fun h => nomatch h), (fun h => nomatch h), (fun h => nomatch h), (fun h => nomatch h), (fun h => nomatch h), (fun h => nomatch h), (fun h => nomatch h), (fun h => nomatch h), (fun h => nomatch h), (fun h => nomatch h)⟩
  case hstep =>
    rintro Lb A W ⟨u0, u1, u2, u3, u4, u5, u6, u7, u8, u9, u10, u11, g1, g2, v, rfl, rfl, kB, k1, k3, k6, c1, c3, c6, c7, c8, c9, c10, kF⟩
    refine ⟨?_, ?_, ?_, ?_, ?_, ?_, ?_, ?_, ?_, ?_, ?_, ?_, trivial⟩
    · intro h0 hd K hK
      have z : u0 = false := h0
      have z11_ : u11 = false := by
        cases hu : u11 with
        | false => rfl
        | true => exact nomatch z.symm.trans ((kF hu).1)
      have H_kB := hide kB
      have H_k1 := hide k1
      have H_k3 := hide k3
      have H_k6 := hide k6
      have H_c1 := hide c1
      have H_c3 := hide c3
      have H_c6 := hide c6
      have H_c7 := hide c7
      have H_c8 := hide c8
      have H_c9 := hide c9
      have H_c10 := hide c10
      have H_kF := hide kF
      clear kB k1 k3 k6 c1 c3 c6 c7 c8 c9 c10 kF
      subst z11_
      subst z
      clear h0 hd
      rw [if_pos (by rfl)]
      have v1 := (unhide HS).bel (unhide H_kB)
      have q0 := v1.cell (m := 0) rfl
      have q1 := v1.cell (m := 1) rfl
      have q2 := v1.cell (m := 2) rfl
      clear v1
      go_simp
      exact unhide hK _ _ ⟨true, u1, u2, u3, u4, u5, u6, u7, u8, u9, u10, false, g1, g2, v, rfl, rfl, unhide H_kB, unhide H_k1, unhide H_k3, unhide H_k6, (fun h => rfl), unhide H_c3, unhide H_c6, unhide H_c7, unhide H_c8, unhide H_c9, unhide H_c10, (fun h => nomatch h)⟩
    · intro h0 hd K hK
      have z : u1 = false := h0
      have z11_ : u11 = false := by
        cases hu : u11 with
        | false => rfl
        | true => exact nomatch z.symm.trans ((kF hu).2.1)
      have z6_ : u6 = false := by
        cases hu : u6 with
        | false => rfl
        | true => exact nomatch z.symm.trans ((c6 hu).1)
      have zd : u0 = true := by
        simp [Region.binds] at hd
        simp [hd]
      have H_kB := hide kB
      have H_k1 := hide k1
      have H_k3 := hide k3
      have H_k6 := hide k6
      have H_c1 := hide c1
      have H_c3 := hide c3
      have H_c6 := hide c6
      have H_c7 := hide c7
      have H_c8 := hide c8
      have H_c9 := hide c9
      have H_c10 := hide c10
      have H_kF := hide kF
      clear kB k1 k3 k6 c1 c3 c6 c7 c8 c9 c10 kF
      obtain ⟨rfl⟩ := zd
      subst z11_
      subst z6_
      subst z
      clear h0 hd
      rw [if_pos (by rfl)]
      go_simp
      refine (unhide HTS W (unhide H_kB)).mono ?_
      rintro e w8 ⟨⟨g', rfl, hg', hk'⟩, hb8⟩
      exact unhide hK _ _ ⟨true, true, u2, u3, u4, u5, false, u7, u8, u9, u10, false, g', g2, v, rfl, rfl, (bc (unhide H_kB) hb8), (fun _ => hk'), (fun h => (unhide H_k3 h).bel hb8), (fun h => nomatch h), (fun _ => rfl), unhide H_c3, (fun h => nomatch h), unhide H_c7, unhide H_c8, unhide H_c9, unhide H_c10, (fun h => nomatch h)⟩
    · intro h0 hd K hK
      have z : u2 = false := h0
      have z11_ : u11 = false := by
        cases hu : u11 with
        | false => rfl
        | true => exact nomatch z.symm.trans ((kF hu).2.2.1)
      have H_kB := hide kB
      have H_k1 := hide k1
      have H_k3 := hide k3
      have H_k6 := hide k6
      have H_c1 := hide c1
      have H_c3 := hide c3
      have H_c6 := hide c6
      have H_c7 := hide c7
      have H_c8 := hide c8
      have H_c9 := hide c9
      have H_c10 := hide c10
      have H_kF := hide kF
      clear kB k1 k3 k6 c1 c3 c6 c7 c8 c9 c10 kF
      subst z11_
      subst z
      clear h0 hd
      rw [if_pos (by rfl)]
      have v1 := (unhide HP).bel (unhide H_kB)
      have q0 := v1.cell (m := 0) rfl
      have q1 := v1.cell (m := 1) rfl
      have q2 := v1.cell (m := 2) rfl
      clear v1
      go_simp
      exact unhide hK _ _ ⟨u0, u1, true, u3, u4, u5, u6, u7, u8, u9, u10, false, g1, g2, v, rfl, rfl, unhide H_kB, unhide H_k1, unhide H_k3, unhide H_k6, unhide H_c1, (fun h => rfl), unhide H_c6, unhide H_c7, unhide H_c8, unhide H_c9, unhide H_c10, (fun h => nomatch h)⟩
    · intro h0 hd K hK
      have z : u3 = false := h0
      have z11_ : u11 = false := by
        cases hu : u11 with
        | false => rfl
        | true => exact nomatch z.symm.trans ((kF hu).2.2.2.1)
      have z6_ : u6 = false := by
        cases hu : u6 with
        | false => rfl
        | true => exact nomatch z.symm.trans ((c6 hu).2.1)
      have zd : u2 = true := by
        simp [Region.binds] at hd
        simp [hd]
      have H_kB := hide kB
      have H_k1 := hide k1
      have H_k3 := hide k3
      have H_k6 := hide k6
      have H_c1 := hide c1
      have H_c3 := hide c3
      have H_c6 := hide c6
      have H_c7 := hide c7
      have H_c8 := hide c8
      have H_c9 := hide c9
      have H_c10 := hide c10
      have H_kF := hide kF
      clear kB k1 k3 k6 c1 c3 c6 c7 c8 c9 c10 kF
      obtain ⟨rfl⟩ := zd
      subst z11_
      subst z6_
      subst z
      clear h0 hd
      rw [if_pos (by rfl)]
      go_simp
      refine (unhide HTP W (unhide H_kB)).mono ?_
      rintro e w8 ⟨⟨g', rfl, hg', hk'⟩, hb8⟩
      exact unhide hK _ _ ⟨u0, u1, true, true, u4, u5, false, u7, u8, u9, u10, false, g1, g', v, rfl, rfl, (bc (unhide H_kB) hb8), (fun h => (unhide H_k1 h).bel hb8), (fun _ => hk'), (fun h => nomatch h), unhide H_c1, (fun _ => rfl), (fun h => nomatch h), unhide H_c7, unhide H_c8, unhide H_c9, unhide H_c10, (fun h => nomatch h)⟩
    · intro h0 hd K hK
      have z : u4 = false := h0
      have z11_ : u11 = false := by
        cases hu : u11 with
        | false => rfl
        | true => exact nomatch z.symm.trans ((kF hu).2.2.2.2.1)
      have H_kB := hide kB
      have H_k1 := hide k1
      have H_k3 := hide k3
      have H_k6 := hide k6
      have H_c1 := hide c1
      have H_c3 := hide c3
      have H_c6 := hide c6
      have H_c7 := hide c7
      have H_c8 := hide c8
      have H_c9 := hide c9
      have H_c10 := hide c10
      have H_kF := hide kF
      clear kB k1 k3 k6 c1 c3 c6 c7 c8 c9 c10 kF
      subst z11_
      subst z
      clear h0 hd
      rw [if_pos (by rfl)]
      go_simp
      exact unhide hK _ _ ⟨u0, u1, u2, u3, true, u5, u6, u7, u8, u9, u10, false, g1, g2, v, rfl, rfl, unhide H_kB, unhide H_k1, unhide H_k3, unhide H_k6, unhide H_c1, unhide H_c3, (fun h => ⟨(unhide H_c6 h).1, (unhide H_c6 h).2.1, rfl, (unhide H_c6 h).2.2.2⟩), unhide H_c7, unhide H_c8, unhide H_c9, unhide H_c10, (fun h => nomatch h)⟩
    · intro h0 hd K hK
      have z : u5 = false := h0
      have z11_ : u11 = false := by
        cases hu : u11 with
        | false => rfl
        | true => exact nomatch z.symm.trans ((kF hu).2.2.2.2.2.1)
      have H_kB := hide kB
      have H_k1 := hide k1
      have H_k3 := hide k3
      have H_k6 := hide k6
      have H_c1 := hide c1
      have H_c3 := hide c3
      have H_c6 := hide c6
      have H_c7 := hide c7
      have H_c8 := hide c8
      have H_c9 := hide c9
      have H_c10 := hide c10
      have H_kF := hide kF
      clear kB k1 k3 k6 c1 c3 c6 c7 c8 c9 c10 kF
      subst z11_
      subst z
      clear h0 hd
      rw [if_pos (by rfl)]
      go_simp
      exact unhide hK _ _ ⟨u0, u1, u2, u3, u4, true, u6, u7, u8, u9, u10, false, g1, g2, v, rfl, rfl, unhide H_kB, unhide H_k1, unhide H_k3, unhide H_k6, unhide H_c1, unhide H_c3, (fun h => ⟨(unhide H_c6 h).1, (unhide H_c6 h).2.1, (unhide H_c6 h).2.2.1, rfl⟩), unhide H_c7, unhide H_c8, unhide H_c9, unhide H_c10, (fun h => nomatch h)⟩
    · intro h0 hd K hK
      have z : u6 = false := h0
      have z11_ : u11 = false := by
        cases hu : u11 with
        | false => rfl
        | true => exact nomatch z.symm.trans ((kF hu).2.2.2.2.2.2.1)
      have z7_ : u7 = false := by
        cases hu : u7 with
        | false => rfl
        | true => exact nomatch z.symm.trans ((c7 hu))
      have z8_ : u8 = false := by
        cases hu : u8 with
        | false => rfl
        | true => exact nomatch z.symm.trans ((c7 (c8 hu)))
      have z10_ : u10 = false := by
        cases hu : u10 with
        | false => rfl
        | true => exact nomatch z.symm.trans ((c7 (c8 (c10 hu))))
      have zd : u1 = true ∧ u3 = true ∧ u4 = true ∧ u5 = true := by
        simp [Region.binds] at hd
        simp [hd]
      have H_kB := hide kB
      have H_k1 := hide k1
      have H_k3 := hide k3
      have H_k6 := hide k6
      have H_c1 := hide c1
      have H_c3 := hide c3
      have H_c6 := hide c6
      have H_c7 := hide c7
      have H_c8 := hide c8
      have H_c9 := hide c9
      have H_c10 := hide c10
      have H_kF := hide kF
      clear kB k1 k3 k6 c1 c3 c6 c7 c8 c9 c10 kF
      obtain ⟨rfl, rfl, rfl, rfl⟩ := zd
      subst z11_
      subst z7_
      subst z8_
      subst z10_
      subst z
      clear h0 hd
      rw [if_pos (by rfl)]
      go_simp
      refine (unhide HM g1 g2 W (unhide H_k1 rfl) (unhide H_k3 rfl)).mono ?_
      rintro e w8 ⟨⟨v', rfl, hro⟩, hb8⟩
      exact unhide hK _ _ ⟨u0, true, u2, true, true, true, true, false, false, u9, false, false, g1, g2, v', rfl, rfl, (bc (unhide H_kB) hb8), (fun h => (unhide H_k1 h).bel hb8), (fun h => (unhide H_k3 h).bel hb8), (fun _ => Mrow.mono hro (unhide H_kB).size), unhide H_c1, unhide H_c3, (fun _ => ⟨rfl, rfl, rfl, rfl⟩), (fun h => nomatch h), (fun h => nomatch h), unhide H_c9, (fun h => nomatch h), (fun h => nomatch h)⟩
    · intro h0 hd K hK
      have z : u7 = false := h0
      have z11_ : u11 = false := by
        cases hu : u11 with
        | false => rfl
        | true => exact nomatch z.symm.trans ((kF hu).2.2.2.2.2.2.2.1)
      have zd : u6 = true := by
        simp [Region.binds] at hd
        simp [hd]
      have H_kB := hide kB
      have H_k1 := hide k1
      have H_k3 := hide k3
      have H_k6 := hide k6
      have H_c1 := hide c1
      have H_c3 := hide c3
      have H_c6 := hide c6
      have H_c7 := hide c7
      have H_c8 := hide c8
      have H_c9 := hide c9
      have H_c10 := hide c10
      have H_kF := hide kF
      clear kB k1 k3 k6 c1 c3 c6 c7 c8 c9 c10 kF
      obtain ⟨rfl⟩ := zd
      subst z11_
      subst z
      clear h0 hd
      rw [if_pos (by rfl)]
      go_simp
      exact unhide hK _ _ ⟨u0, u1, u2, u3, u4, u5, true, true, u8, u9, u10, false, g1, g2, v, rfl, rfl, unhide H_kB, unhide H_k1, unhide H_k3, unhide H_k6, unhide H_c1, unhide H_c3, unhide H_c6, (fun _ => rfl), (fun h => rfl), (fun h => rfl), unhide H_c10, (fun h => nomatch h)⟩
    · intro h0 hd K hK
      have z : u8 = false := h0
      have z11_ : u11 = false := by
        cases hu : u11 with
        | false => rfl
        | true => exact nomatch z.symm.trans ((kF hu).2.2.2.2.2.2.2.2.1)
      have zd : u7 = true := by
        simp [Region.binds] at hd
        simp [hd]
      have H_kB := hide kB
      have H_k1 := hide k1
      have H_k3 := hide k3
      have H_k6 := hide k6
      have H_c1 := hide c1
      have H_c3 := hide c3
      have H_c6 := hide c6
      have H_c7 := hide c7
      have H_c8 := hide c8
      have H_c9 := hide c9
      have H_c10 := hide c10
      have H_kF := hide kF
      clear kB k1 k3 k6 c1 c3 c6 c7 c8 c9 c10 kF
      obtain ⟨rfl⟩ := zd
      subst z11_
      subst z
      clear h0 hd
      rw [if_pos (by rfl)]
      go_simp
      exact unhide hK _ _ ⟨u0, u1, u2, u3, u4, u5, u6, true, true, u9, u10, false, g1, g2, v, rfl, rfl, unhide H_kB, unhide H_k1, unhide H_k3, unhide H_k6, unhide H_c1, unhide H_c3, unhide H_c6, unhide H_c7, (fun _ => rfl), (fun h => rfl), (fun h => rfl), (fun h => nomatch h)⟩
    · intro h0 hd K hK
      have z : u9 = false := h0
      have z11_ : u11 = false := by
        cases hu : u11 with
        | false => rfl
        | true => exact nomatch z.symm.trans ((kF hu).2.2.2.2.2.2.2.2.2.1)
      have zd : u7 = true := by
        simp [Region.binds] at hd
        simp [hd]
      have H_kB := hide kB
      have H_k1 := hide k1
      have H_k3 := hide k3
      have H_k6 := hide k6
      have H_c1 := hide c1
      have H_c3 := hide c3
      have H_c6 := hide c6
      have H_c7 := hide c7
      have H_c8 := hide c8
      have H_c9 := hide c9
      have H_c10 := hide c10
      have H_kF := hide kF
      clear kB k1 k3 k6 c1 c3 c6 c7 c8 c9 c10 kF
      obtain ⟨rfl⟩ := zd
      subst z11_
      subst z
      clear h0 hd
      rw [if_pos (by rfl)]
      go_simp
      exact unhide hK _ _ ⟨u0, u1, u2, u3, u4, u5, u6, true, u8, true, u10, false, g1, g2, v, rfl, rfl, unhide H_kB, unhide H_k1, unhide H_k3, unhide H_k6, unhide H_c1, unhide H_c3, unhide H_c6, unhide H_c7, (fun h => rfl), (fun _ => rfl), unhide H_c10, (fun h => nomatch h)⟩
    · intro h0 hd K hK
      have z : u10 = false := h0
      have z11_ : u11 = false := by
        cases hu : u11 with
        | false => rfl
        | true => exact nomatch z.symm.trans ((kF hu).2.2.2.2.2.2.2.2.2.2)
      have zd : u8 = true := by
        simp [Region.binds] at hd
        simp_all
      have H_kB := hide kB
      have H_k1 := hide k1
      have H_k3 := hide k3
      have H_k6 := hide k6
      have H_c1 := hide c1
      have H_c3 := hide c3
      have H_c6 := hide c6
      have H_c7 := hide c7
      have H_c8 := hide c8
      have H_c9 := hide c9
      have H_c10 := hide c10
      have H_kF := hide kF
      clear kB k1 k3 k6 c1 c3 c6 c7 c8 c9 c10 kF
      obtain ⟨rfl⟩ := zd
      subst z11_
      subst z
      clear h0 hd
      rw [if_pos (by rfl)]
      go_simp
      exact unhide hK _ _ ⟨u0, u1, u2, u3, u4, u5, u6, u7, true, u9, true, false, g1, g2, v, rfl, rfl, unhide H_kB, unhide H_k1, unhide H_k3, unhide H_k6, unhide H_c1, unhide H_c3, unhide H_c6, unhide H_c7, unhide H_c8, unhide H_c9, (fun _ => rfl), (fun h => nomatch h)⟩
    · intro h0 hd K hK
      have z : u11 = false := h0
      have zd : u9 = true ∧ u0 = true ∧ u1 = true ∧ u2 = true ∧ u3 = true ∧ u4 = true ∧ u5 = true ∧ u6 = true ∧ u7 = true ∧ u8 = true ∧ u10 = true := by
        simp [Region.binds] at hd
        simp_all
      have H_kB := hide kB
      have H_k1 := hide k1
      have H_k3 := hide k3
      have H_k6 := hide k6
      have H_c1 := hide c1
      have H_c3 := hide c3
      have H_c6 := hide c6
      have H_c7 := hide c7
      have H_c8 := hide c8
      have H_c9 := hide c9
      have H_c10 := hide c10
      have H_kF := hide kF
      clear kB k1 k3 k6 c1 c3 c6 c7 c8 c9 c10 kF
      obtain ⟨rfl, rfl, rfl, rfl, rfl, rfl, rfl, rfl, rfl, rfl, rfl⟩ := zd
      subst z
      clear h0 hd
      rw [if_pos (by rfl)]
      go_simp
      exact unhide hK _ _ ⟨true, true, true, true, true, true, true, true, true, true, true, true, g1, g2, v, rfl, rfl, unhide H_kB, unhide H_k1, unhide H_k3, unhide H_k6, (fun _ => rfl), (fun _ => rfl), (fun _ => ⟨rfl, rfl, rfl, rfl⟩), (fun _ => rfl), (fun _ => rfl), (fun _ => rfl), (fun _ => rfl), (fun _ => ⟨rfl, rfl, rfl, rfl, rfl, rfl, rfl, rfl, rfl, rfl, rfl⟩)⟩
  case hend =>
    rintro Lb A W ⟨u0, u1, u2, u3, u4, u5, u6, u7, u8, u9, u10, u11, g1, g2, v, rfl, rfl, kB, k1, k3, k6, c1, c3, c6, c7, c8, c9, c10, kF⟩ hL
    have hl : u0 = true ∧ u1 = true ∧ u2 = true ∧ u3 = true ∧ u4 = true ∧ u5 = true ∧ u6 = true ∧ u7 = true ∧ u8 = true ∧ u9 = true ∧ u10 = true ∧ u11 = true := by
      have h2 := congrArg Array.toList hL
      simpa [List.replicate] using h2
    obtain ⟨rfl, rfl, rfl, rfl, rfl, rfl, rfl, rfl, rfl, rfl, rfl, rfl⟩ := hl
    exact unhide HQ _ _ _ _ _ _ _ _ _ _ v W kB (k6 rfl)

set_option maxHeartbeats 4000000 in
set_option maxRecDepth 100000 in
theorem zq31 {s0 s1 s6 s7 s8 s9 s10 s11 s12 s13 s14 s15 s16 s17 s18 s19 s20 s21 s22 s23 s24 s25 s26 s27 s28 s29 s30 s31 s32 s33 s34 s35 s36 s37 s38 s39 s40 s41 s42 s43 s44 s45 s46 s47 s48 s49 s50 s51 s52 s53 s54 s55 s56 s57 s58 s59 s60 s61 s62 s63 s64 s65 s66 s67 s68 s69 s70 s71 s72 s73 s74 s75 s76 s77 s78 s79 s80 s81 s82 s83 s84 s85 s86 s87 s88 s89 s90 s91 s92 s93 s94 s95 s96 s97 s98 s99 s100 s101 s102 s103 s104 s105 s106 s107 s108 s109 s110 s111 s112 s113 s114 s115 s116 s117 s118 s119 s120 s121 s122 s123 s124 s125 s126 s127 s128 : Value} {Ws Hs Wp Hp R S_ E : Int} {us up : Option Addr} {ns cs np cp m b4 b5 : Nat} {S T : List Int} {ms : List Mve} {V : World} {K_ : Act → World → Prop}
    (HS : Hid (vb V b4 49 [.int .i64 Ws, .int .i64 Hs, .slice us ns cs])) (HP : Hid (vb V b5 49 [.int .i64 Wp, .int .i64 Hp, .slice up np cp]))
    (HTS : Hid (∀ X, Below V.heap.size V X → Calls Try.prog 22 #[.agg #[.int .i64 Ws, .int .i64 Hs, .slice us ns cs]] X fun e w' => (∃ g, e = .returned (.agg #[.int .i64 Ws, .int .i64 Hs, .slice (some ⟨g, 0, none⟩) ns ns]) ∧ X.heap.size ≤ g ∧ iblk w' g 3 S) ∧ Below X.heap.size X w'))
    (HTP : Hid (∀ X, Below V.heap.size V X → Calls Try.prog 22 #[.agg #[.int .i64 Wp, .int .i64 Hp, .slice up np cp]] X fun e w' => (∃ g, e = .returned (.agg #[.int .i64 Wp, .int .i64 Hp, .slice (some ⟨g, 0, none⟩) np np]) ∧ X.heap.size ≤ g ∧ iblk w' g 3 T) ∧ Below X.heap.size X w'))
    (HM : Hid (∀ (g1 g2 : Nat) (X : World), iblk X g1 3 S → iblk X g2 3 T → Calls Try.prog 9 #[.agg #[.int .i64 Ws, .int .i64 Hs, .slice (some ⟨g1, 0, none⟩) ns ns], .agg #[.int .i64 Wp, .int .i64 Hp, .slice (some ⟨g2, 0, none⟩) np np], .int .i64 R, .int .i64 S_] X fun e w' => (∃ v, e = .returned (.tuple #[v, .int .i64 E]) ∧ Mrow w' X.heap.size v m ms) ∧ Below X.heap.size X w'))
    (hQ : ∀ (y103 y104 y105 y106 y107 y108 y109 y102 y110 y111 : Value) (v : Value) (W' : World), Below V.heap.size V W' → Mrow W' V.heap.size v m ms → K_ { tmps := #[s0, s1, .int .i64 (R), .int .i64 (S_), .pointer (some ⟨b4, 0, none⟩), .pointer (some ⟨b5, 0, none⟩), s6, s7, s8, s9, s10, s11, s12, s13, s14, s15, s16, s17, s18, v, .int .i64 (E), s21, s22, s23, s24, s25, s26, s27, s28, s29, s30, s31, s32, s33, s34, s35, s36, s37, s38, s39, s40, s41, s42, s43, s44, s45, s46, s47, s48, s49, s50, s51, s52, s53, s54, s55, s56, s57, s58, s59, s60, s61, s62, s63, s64, s65, s66, s67, s68, s69, s70, s71, s72, s73, s74, s75, s76, s77, s78, s79, s80, s81, s82, s83, s84, s85, s86, s87, s88, s89, s90, s91, s92, s93, s94, s95, s96, s97, s98, s99, s100, s101, y102, y103, y104, y105, y106, y107, y108, y109, y110, y111, s112, s113, s114, s115, s116, s117, s118, s119, s120, s121, s122, s123, s124, s125, s126, s127, s128], defers := [] } W') :
    Go.Code.wp Try.prog (reg5 31) (Only K_) { tmps := #[s0, s1, .int .i64 (R), .int .i64 (S_), .pointer (some ⟨b4, 0, none⟩), .pointer (some ⟨b5, 0, none⟩), s6, s7, s8, s9, s10, s11, s12, s13, s14, s15, s16, s17, s18, s19, s20, s21, s22, s23, s24, s25, s26, s27, s28, s29, s30, s31, s32, s33, s34, s35, s36, s37, s38, s39, s40, s41, s42, s43, s44, s45, s46, s47, s48, s49, s50, s51, s52, s53, s54, s55, s56, s57, s58, s59, s60, s61, s62, s63, s64, s65, s66, s67, s68, s69, s70, s71, s72, s73, s74, s75, s76, s77, s78, s79, s80, s81, s82, s83, s84, s85, s86, s87, s88, s89, s90, s91, s92, s93, s94, s95, s96, s97, s98, s99, s100, s101, s102, s103, s104, s105, s106, s107, s108, s109, s110, s111, s112, s113, s114, s115, s116, s117, s118, s119, s120, s121, s122, s123, s124, s125, s126, s127, s128], defers := [] } V := by
  have HQ := hide hQ
  clear hQ
  conv => arg 2; whnf
  refine wp_region_inv2 (fun Lb A W => ∃ (u0 u1 u2 u3 u4 u5 u6 u7 u8 u9 u10 u11 : Bool) (g1 : Nat) (g2 : Nat) (v : Value), Lb = #[u0, u1, u2, u3, u4, u5, u6, u7, u8, u9, u10, u11] ∧ A = ({ tmps := #[s0, s1, .int .i64 (R), .int .i64 (S_), .pointer (some ⟨b4, 0, none⟩), .pointer (some ⟨b5, 0, none⟩), s6, s7, s8, s9, s10, s11, s12, s13, s14, s15, s16, s17, s18, (bif u10 then v else s19), (bif u11 then .int .i64 (E) else s20), s21, s22, s23, s24, s25, s26, s27, s28, s29, s30, s31, s32, s33, s34, s35, s36, s37, s38, s39, s40, s41, s42, s43, s44, s45, s46, s47, s48, s49, s50, s51, s52, s53, s54, s55, s56, s57, s58, s59, s60, s61, s62, s63, s64, s65, s66, s67, s68, s69, s70, s71, s72, s73, s74, s75, s76, s77, s78, s79, s80, s81, s82, s83, s84, s85, s86, s87, s88, s89, s90, s91, s92, s93, s94, s95, s96, s97, s98, s99, s100, s101, (bif u7 then .tuple #[v, .int .i64 (E)] else s102), (bif u0 then .agg #[.int .i64 Ws, .int .i64 Hs, .slice us ns cs] else s103), (bif u1 then .agg #[.int .i64 Ws, .int .i64 Hs, .slice (some ⟨g1, 0, none⟩) ns ns] else s104), (bif u2 then .agg #[.int .i64 Wp, .int .i64 Hp, .slice up np cp] else s105), (bif u3 then .agg #[.int .i64 Wp, .int .i64 Hp, .slice (some ⟨g2, 0, none⟩) np np] else s106), (bif u4 then .int .i64 (R) else s107), (bif u5 then .int .i64 (S_) else s108), (bif u6 then .tuple #[v, .int .i64 (E)] else s109), (bif u8 then v else s110), (bif u9 then .int .i64 (E) else s111), s112, s113, s114, s115, s116, s117, s118, s119, s120, s121, s122, s123, s124, s125, s126, s127, s128], defers := [] } : Act) ∧ Below V.heap.size V W ∧ (u1 = true → iblk W g1 3 S) ∧ (u3 = true → iblk W g2 3 T) ∧ (u6 = true → Mrow W V.heap.size v m ms) ∧ (u1 = true → u0 = true) ∧ (u3 = true → u2 = true) ∧ (u6 = true → u1 = true ∧ u3 = true ∧ u4 = true ∧ u5 = true) ∧ (u7 = true → u6 = true) ∧ (u8 = true → u7 = true) ∧ (u9 = true → u7 = true) ∧ (u10 = true → u8 = true) ∧ (u11 = true → u0 = true ∧ u1 = true ∧ u2 = true ∧ u3 = true ∧ u4 = true ∧ u5 = true ∧ u6 = true ∧ u7 = true ∧ u8 = true ∧ u9 = true ∧ u10 = true)) (by kernel_rfl) (by kernel_rfl) ?h0 ?hstep ?hend
  case h0 =>
    exact ⟨false, false, false, false, false, false, false, false, false, false, false, false, 0, 0, undef, rfl, rfl, Below.drew (Below.refl _ _), (fun h => nomatch h), (fun h => nomatch h), (fun h => nomatch h), (fun h => nomatch h), (fun h => nomatch h), (fun h => nomatch h), (fun h => nomatch h), (fun h => nomatch h), (fun h => nomatch h), (fun h => nomatch h), (fun h => nomatch h)⟩
  case hstep =>
    rintro Lb A W ⟨u0, u1, u2, u3, u4, u5, u6, u7, u8, u9, u10, u11, g1, g2, v, rfl, rfl, kB, k1, k3, k6, c1, c3, c6, c7, c8, c9, c10, kF⟩
    refine ⟨?_, ?_, ?_, ?_, ?_, ?_, ?_, ?_, ?_, ?_, ?_, ?_, trivial⟩
    · intro h0 hd K hK
      have z : u0 = false := h0
      have z11_ : u11 = false := by
        cases hu : u11 with
        | false => rfl
        | true => exact nomatch z.symm.trans ((kF hu).1)
      have H_kB := hide kB
      have H_k1 := hide k1
      have H_k3 := hide k3
      have H_k6 := hide k6
      have H_c1 := hide c1
      have H_c3 := hide c3
      have H_c6 := hide c6
      have H_c7 := hide c7
      have H_c8 := hide c8
      have H_c9 := hide c9
      have H_c10 := hide c10
      have H_kF := hide kF
      clear kB k1 k3 k6 c1 c3 c6 c7 c8 c9 c10 kF
      subst z11_
      subst z
      clear h0 hd
      rw [if_pos (by rfl)]
      have v1 := (unhide HS).bel (unhide H_kB)
      have q0 := v1.cell (m := 0) rfl
      have q1 := v1.cell (m := 1) rfl
      have q2 := v1.cell (m := 2) rfl
      clear v1
      go_simp
      exact unhide hK _ _ ⟨true, u1, u2, u3, u4, u5, u6, u7, u8, u9, u10, false, g1, g2, v, rfl, rfl, unhide H_kB, unhide H_k1, unhide H_k3, unhide H_k6, (fun h => rfl), unhide H_c3, unhide H_c6, unhide H_c7, unhide H_c8, unhide H_c9, unhide H_c10, (fun h => nomatch h)⟩
    · intro h0 hd K hK
      have z : u1 = false := h0
      have z11_ : u11 = false := by
        cases hu : u11 with
        | false => rfl
        | true => exact nomatch z.symm.trans ((kF hu).2.1)
      have z6_ : u6 = false := by
        cases hu : u6 with
        | false => rfl
        | true => exact nomatch z.symm.trans ((c6 hu).1)
      have zd : u0 = true := by
        simp [Region.binds] at hd
        simp [hd]
      have H_kB := hide kB
      have H_k1 := hide k1
      have H_k3 := hide k3
      have H_k6 := hide k6
      have H_c1 := hide c1
      have H_c3 := hide c3
      have H_c6 := hide c6
      have H_c7 := hide c7
      have H_c8 := hide c8
      have H_c9 := hide c9
      have H_c10 := hide c10
      have H_kF := hide kF
      clear kB k1 k3 k6 c1 c3 c6 c7 c8 c9 c10 kF
      obtain ⟨rfl⟩ := zd
      subst z11_
      subst z6_
      subst z
      clear h0 hd
      rw [if_pos (by rfl)]
      go_simp
      refine (unhide HTS W (unhide H_kB)).mono ?_
      rintro e w8 ⟨⟨g', rfl, hg', hk'⟩, hb8⟩
      exact unhide hK _ _ ⟨true, true, u2, u3, u4, u5, false, u7, u8, u9, u10, false, g', g2, v, rfl, rfl, (bc (unhide H_kB) hb8), (fun _ => hk'), (fun h => (unhide H_k3 h).bel hb8), (fun h => nomatch h), (fun _ => rfl), unhide H_c3, (fun h => nomatch h), unhide H_c7, unhide H_c8, unhide H_c9, unhide H_c10, (fun h => nomatch h)⟩
    · intro h0 hd K hK
      have z : u2 = false := h0
      have z11_ : u11 = false := by
        cases hu : u11 with
        | false => rfl
        | true => exact nomatch z.symm.trans ((kF hu).2.2.1)
      have H_kB := hide kB
      have H_k1 := hide k1
      have H_k3 := hide k3
      have H_k6 := hide k6
      have H_c1 := hide c1
      have H_c3 := hide c3
      have H_c6 := hide c6
      have H_c7 := hide c7
      have H_c8 := hide c8
      have H_c9 := hide c9
      have H_c10 := hide c10
      have H_kF := hide kF
      clear kB k1 k3 k6 c1 c3 c6 c7 c8 c9 c10 kF
      subst z11_
      subst z
      clear h0 hd
      rw [if_pos (by rfl)]
      have v1 := (unhide HP).bel (unhide H_kB)
      have q0 := v1.cell (m := 0) rfl
      have q1 := v1.cell (m := 1) rfl
      have q2 := v1.cell (m := 2) rfl
      clear v1
      go_simp
      exact unhide hK _ _ ⟨u0, u1, true, u3, u4, u5, u6, u7, u8, u9, u10, false, g1, g2, v, rfl, rfl, unhide H_kB, unhide H_k1, unhide H_k3, unhide H_k6, unhide H_c1, (fun h => rfl), unhide H_c6, unhide H_c7, unhide H_c8, unhide H_c9, unhide H_c10, (fun h => nomatch h)⟩
    · intro h0 hd K hK
      have z : u3 = false := h0
      have z11_ : u11 = false := by
        cases hu : u11 with
        | false => rfl
        | true => exact nomatch z.symm.trans ((kF hu).2.2.2.1)
      have z6_ : u6 = false := by
        cases hu : u6 with
        | false => rfl
        | true => exact nomatch z.symm.trans ((c6 hu).2.1)
      have zd : u2 = true := by
        simp [Region.binds] at hd
        simp [hd]
      have H_kB := hide kB
      have H_k1 := hide k1
      have H_k3 := hide k3
      have H_k6 := hide k6
      have H_c1 := hide c1
      have H_c3 := hide c3
      have H_c6 := hide c6
      have H_c7 := hide c7
      have H_c8 := hide c8
      have H_c9 := hide c9
      have H_c10 := hide c10
      have H_kF := hide kF
      clear kB k1 k3 k6 c1 c3 c6 c7 c8 c9 c10 kF
      obtain ⟨rfl⟩ := zd
      subst z11_
      subst z6_
      subst z
      clear h0 hd
      rw [if_pos (by rfl)]
      go_simp
      refine (unhide HTP W (unhide H_kB)).mono ?_
      rintro e w8 ⟨⟨g', rfl, hg', hk'⟩, hb8⟩
      exact unhide hK _ _ ⟨u0, u1, true, true, u4, u5, false, u7, u8, u9, u10, false, g1, g', v, rfl, rfl, (bc (unhide H_kB) hb8), (fun h => (unhide H_k1 h).bel hb8), (fun _ => hk'), (fun h => nomatch h), unhide H_c1, (fun _ => rfl), (fun h => nomatch h), unhide H_c7, unhide H_c8, unhide H_c9, unhide H_c10, (fun h => nomatch h)⟩
    · intro h0 hd K hK
      have z : u4 = false := h0
      have z11_ : u11 = false := by
        cases hu : u11 with
        | false => rfl
        | true => exact nomatch z.symm.trans ((kF hu).2.2.2.2.1)
      have H_kB := hide kB
      have H_k1 := hide k1
      have H_k3 := hide k3
      have H_k6 := hide k6
      have H_c1 := hide c1
      have H_c3 := hide c3
      have H_c6 := hide c6
      have H_c7 := hide c7
      have H_c8 := hide c8
      have H_c9 := hide c9
      have H_c10 := hide c10
      have H_kF := hide kF
      clear kB k1 k3 k6 c1 c3 c6 c7 c8 c9 c10 kF
      subst z11_
      subst z
      clear h0 hd
      rw [if_pos (by rfl)]
      go_simp
      exact unhide hK _ _ ⟨u0, u1, u2, u3, true, u5, u6, u7, u8, u9, u10, false, g1, g2, v, rfl, rfl, unhide H_kB, unhide H_k1, unhide H_k3, unhide H_k6, unhide H_c1, unhide H_c3, (fun h => ⟨(unhide H_c6 h).1, (unhide H_c6 h).2.1, rfl, (unhide H_c6 h).2.2.2⟩), unhide H_c7, unhide H_c8, unhide H_c9, unhide H_c10, (fun h => nomatch h)⟩
    · intro h0 hd K hK
      have z : u5 = false := h0
      have z11_ : u11 = false := by
        cases hu : u11 with
        | false => rfl
        | true => exact nomatch z.symm.trans ((kF hu).2.2.2.2.2.1)
      have H_kB := hide kB
      have H_k1 := hide k1
      have H_k3 := hide k3
      have H_k6 := hide k6
      have H_c1 := hide c1
      have H_c3 := hide c3
      have H_c6 := hide c6
      have H_c7 := hide c7
      have H_c8 := hide c8
      have H_c9 := hide c9
      have H_c10 := hide c10
      have H_kF := hide kF
      clear kB k1 k3 k6 c1 c3 c6 c7 c8 c9 c10 kF
      subst z11_
      subst z
      clear h0 hd
      rw [if_pos (by rfl)]
      go_simp
      exact unhide hK _ _ ⟨u0, u1, u2, u3, u4, true, u6, u7, u8, u9, u10, false, g1, g2, v, rfl, rfl, unhide H_kB, unhide H_k1, unhide H_k3, unhide H_k6, unhide H_c1, unhide H_c3, (fun h => ⟨(unhide H_c6 h).1, (unhide H_c6 h).2.1, (unhide H_c6 h).2.2.1, rfl⟩), unhide H_c7, unhide H_c8, unhide H_c9, unhide H_c10, (fun h => nomatch h)⟩
    · intro h0 hd K hK
      have z : u6 = false := h0
      have z11_ : u11 = false := by
        cases hu : u11 with
        | false => rfl
        | true => exact nomatch z.symm.trans ((kF hu).2.2.2.2.2.2.1)
      have z7_ : u7 = false := by
        cases hu : u7 with
        | false => rfl
        | true => exact nomatch z.symm.trans ((c7 hu))
      have z8_ : u8 = false := by
        cases hu : u8 with
        | false => rfl
        | true => exact nomatch z.symm.trans ((c7 (c8 hu)))
      have z10_ : u10 = false := by
        cases hu : u10 with
        | false => rfl
        | true => exact nomatch z.symm.trans ((c7 (c8 (c10 hu))))
      have zd : u1 = true ∧ u3 = true ∧ u4 = true ∧ u5 = true := by
        simp [Region.binds] at hd
        simp [hd]
      have H_kB := hide kB
      have H_k1 := hide k1
      have H_k3 := hide k3
      have H_k6 := hide k6
      have H_c1 := hide c1
      have H_c3 := hide c3
      have H_c6 := hide c6
      have H_c7 := hide c7
      have H_c8 := hide c8
      have H_c9 := hide c9
      have H_c10 := hide c10
      have H_kF := hide kF
      clear kB k1 k3 k6 c1 c3 c6 c7 c8 c9 c10 kF
      obtain ⟨rfl, rfl, rfl, rfl⟩ := zd
      subst z11_
      subst z7_
      subst z8_
      subst z10_
      subst z
      clear h0 hd
      rw [if_pos (by rfl)]
      go_simp
      refine (unhide HM g1 g2 W (unhide H_k1 rfl) (unhide H_k3 rfl)).mono ?_
      rintro e w8 ⟨⟨v', rfl, hro⟩, hb8⟩
      exact unhide hK _ _ ⟨u0, true, u2, true, true, true, true, false, false, u9, false, false, g1, g2, v', rfl, rfl, (bc (unhide H_kB) hb8), (fun h => (unhide H_k1 h).bel hb8), (fun h => (unhide H_k3 h).bel hb8), (fun _ => Mrow.mono hro (unhide H_kB).size), unhide H_c1, unhide H_c3, (fun _ => ⟨rfl, rfl, rfl, rfl⟩), (fun h => nomatch h), (fun h => nomatch h), unhide H_c9, (fun h => nomatch h), (fun h => nomatch h)⟩
    · intro h0 hd K hK
      have z : u7 = false := h0
      have z11_ : u11 = false := by
        cases hu : u11 with
        | false => rfl
        | true => exact nomatch z.symm.trans ((kF hu).2.2.2.2.2.2.2.1)
      have zd : u6 = true := by
        simp [Region.binds] at hd
        simp [hd]
      have H_kB := hide kB
      have H_k1 := hide k1
      have H_k3 := hide k3
      have H_k6 := hide k6
      have H_c1 := hide c1
      have H_c3 := hide c3
      have H_c6 := hide c6
      have H_c7 := hide c7
      have H_c8 := hide c8
      have H_c9 := hide c9
      have H_c10 := hide c10
      have H_kF := hide kF
      clear kB k1 k3 k6 c1 c3 c6 c7 c8 c9 c10 kF
      obtain ⟨rfl⟩ := zd
      subst z11_
      subst z
      clear h0 hd
      rw [if_pos (by rfl)]
      go_simp
      exact unhide hK _ _ ⟨u0, u1, u2, u3, u4, u5, true, true, u8, u9, u10, false, g1, g2, v, rfl, rfl, unhide H_kB, unhide H_k1, unhide H_k3, unhide H_k6, unhide H_c1, unhide H_c3, unhide H_c6, (fun _ => rfl), (fun h => rfl), (fun h => rfl), unhide H_c10, (fun h => nomatch h)⟩
    · intro h0 hd K hK
      have z : u8 = false := h0
      have z11_ : u11 = false := by
        cases hu : u11 with
        | false => rfl
        | true => exact nomatch z.symm.trans ((kF hu).2.2.2.2.2.2.2.2.1)
      have zd : u7 = true := by
        simp [Region.binds] at hd
        simp [hd]
      have H_kB := hide kB
      have H_k1 := hide k1
      have H_k3 := hide k3
      have H_k6 := hide k6
      have H_c1 := hide c1
      have H_c3 := hide c3
      have H_c6 := hide c6
      have H_c7 := hide c7
      have H_c8 := hide c8
      have H_c9 := hide c9
      have H_c10 := hide c10
      have H_kF := hide kF
      clear kB k1 k3 k6 c1 c3 c6 c7 c8 c9 c10 kF
      obtain ⟨rfl⟩ := zd
      subst z11_
      subst z
      clear h0 hd
      rw [if_pos (by rfl)]
      go_simp
      exact unhide hK _ _ ⟨u0, u1, u2, u3, u4, u5, u6, true, true, u9, u10, false, g1, g2, v, rfl, rfl, unhide H_kB, unhide H_k1, unhide H_k3, unhide H_k6, unhide H_c1, unhide H_c3, unhide H_c6, unhide H_c7, (fun _ => rfl), (fun h => rfl), (fun h => rfl), (fun h => nomatch h)⟩
    · intro h0 hd K hK
      have z : u9 = false := h0
      have z11_ : u11 = false := by
        cases hu : u11 with
        | false => rfl
        | true => exact nomatch z.symm.trans ((kF hu).2.2.2.2.2.2.2.2.2.1)
      have zd : u7 = true := by
        simp [Region.binds] at hd
        simp [hd]
      have H_kB := hide kB
      have H_k1 := hide k1
      have H_k3 := hide k3
      have H_k6 := hide k6
      have H_c1 := hide c1
      have H_c3 := hide c3
      have H_c6 := hide c6
      have H_c7 := hide c7
      have H_c8 := hide c8
      have H_c9 := hide c9
      have H_c10 := hide c10
      have H_kF := hide kF
      clear kB k1 k3 k6 c1 c3 c6 c7 c8 c9 c10 kF
      obtain ⟨rfl⟩ := zd
      subst z11_
      subst z
      clear h0 hd
      rw [if_pos (by rfl)]
      go_simp
      exact unhide hK _ _ ⟨u0, u1, u2, u3, u4, u5, u6, true, u8, true, u10, false, g1, g2, v, rfl, rfl, unhide H_kB, unhide H_k1, unhide H_k3, unhide H_k6, unhide H_c1, unhide H_c3, unhide H_c6, unhide H_c7, (fun h => rfl), (fun _ => rfl), unhide H_c10, (fun h => nomatch h)⟩
    · intro h0 hd K hK
      have z : u10 = false := h0
      have z11_ : u11 = false := by
        cases hu : u11 with
        | false => rfl
        | true => exact nomatch z.symm.trans ((kF hu).2.2.2.2.2.2.2.2.2.2)
      have zd : u8 = true := by
        simp [Region.binds] at hd
        simp_all
      have H_kB := hide kB
      have H_k1 := hide k1
      have H_k3 := hide k3
      have H_k6 := hide k6
      have H_c1 := hide c1
      have H_c3 := hide c3
      have H_c6 := hide c6
      have H_c7 := hide c7
      have H_c8 := hide c8
      have H_c9 := hide c9
      have H_c10 := hide c10
      have H_kF := hide kF
      clear kB k1 k3 k6 c1 c3 c6 c7 c8 c9 c10 kF
      obtain ⟨rfl⟩ := zd
      subst z11_
      subst z
      clear h0 hd
      rw [if_pos (by rfl)]
      go_simp
      exact unhide hK _ _ ⟨u0, u1, u2, u3, u4, u5, u6, u7, true, u9, true, false, g1, g2, v, rfl, rfl, unhide H_kB, unhide H_k1, unhide H_k3, unhide H_k6, unhide H_c1, unhide H_c3, unhide H_c6, unhide H_c7, unhide H_c8, unhide H_c9, (fun _ => rfl), (fun h => nomatch h)⟩
    · intro h0 hd K hK
      have z : u11 = false := h0
      have zd : u9 = true ∧ u0 = true ∧ u1 = true ∧ u2 = true ∧ u3 = true ∧ u4 = true ∧ u5 = true ∧ u6 = true ∧ u7 = true ∧ u8 = true ∧ u10 = true := by
        simp [Region.binds] at hd
        simp_all
      have H_kB := hide kB
      have H_k1 := hide k1
      have H_k3 := hide k3
      have H_k6 := hide k6
      have H_c1 := hide c1
      have H_c3 := hide c3
      have H_c6 := hide c6
      have H_c7 := hide c7
      have H_c8 := hide c8
      have H_c9 := hide c9
      have H_c10 := hide c10
      have H_kF := hide kF
      clear kB k1 k3 k6 c1 c3 c6 c7 c8 c9 c10 kF
      obtain ⟨rfl, rfl, rfl, rfl, rfl, rfl, rfl, rfl, rfl, rfl, rfl⟩ := zd
      subst z
      clear h0 hd
      rw [if_pos (by rfl)]
      go_simp
      exact unhide hK _ _ ⟨true, true, true, true, true, true, true, true, true, true, true, true, g1, g2, v, rfl, rfl, unhide H_kB, unhide H_k1, unhide H_k3, unhide H_k6, (fun _ => rfl), (fun _ => rfl), (fun _ => ⟨rfl, rfl, rfl, rfl⟩), (fun _ => rfl), (fun _ => rfl), (fun _ => rfl), (fun _ => rfl), (fun _ => ⟨rfl, rfl, rfl, rfl, rfl, rfl, rfl, rfl, rfl, rfl, rfl⟩)⟩
  case hend =>
    rintro Lb A W ⟨u0, u1, u2, u3, u4, u5, u6, u7, u8, u9, u10, u11, g1, g2, v, rfl, rfl, kB, k1, k3, k6, c1, c3, c6, c7, c8, c9, c10, kF⟩ hL
    have hl : u0 = true ∧ u1 = true ∧ u2 = true ∧ u3 = true ∧ u4 = true ∧ u5 = true ∧ u6 = true ∧ u7 = true ∧ u8 = true ∧ u9 = true ∧ u10 = true ∧ u11 = true := by
      have h2 := congrArg Array.toList hL
      simpa [List.replicate] using h2
    obtain ⟨rfl, rfl, rfl, rfl, rfl, rfl, rfl, rfl, rfl, rfl, rfl, rfl⟩ := hl
    exact unhide HQ _ _ _ _ _ _ _ _ _ _ v W kB (k6 rfl)
end Go.Proofs.Ytjhldjojkaphkaa
