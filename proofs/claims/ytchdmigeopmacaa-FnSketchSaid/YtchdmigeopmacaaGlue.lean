/-
  What both sides' SketchSolve answer, told in one way.
-/
import Derived.Test.YtchdmigeopmacaaSkMath
import Derived.Test.YtchdmigeopmacaaSteps
import Derived.Test.YtchdmigeopmacaaLeast
import Derived.Test.YtchdmigeopmacaaSolveM
import Derived.Test.YtchdmigeopmacaaSolveN
import Derived.Test.YtchdmigeopmacaaCoreP
import Derived.Test.YtchdmigeopmacaaPtRows
namespace Go.Proofs.Ytchdmigeopmacaa
open Go.ChangeShapes Go.WideShapes Go.ChangeAt Go.RowKit
set_option linter.unusedVariables false
set_option linter.unusedSimpArgs false

theorem ok_parts {n : Int} {rs : List Ru} (h : skOk n rs = true) : 1 ≤ n ∧ n ≤ 24 ∧ rs.length ≤ 60 ∧ ∀ r ∈ rs, ruOk n r = true := by
  unfold skOk at h
  rw [Bool.and_eq_true, Bool.and_eq_true, decide_eq_true_eq, decide_eq_true_eq, List.all_eq_true] at h
  exact ⟨h.1.1.1, h.1.1.2, h.1.2, h.2⟩
theorem pick_ok {N : Nat} {rs : List Ru} {ks : List Nat} (h : ∀ r ∈ rs, ruOk (N : Int) r = true) (hk : ∀ j ∈ ks, j < rs.length) : ∀ r ∈ pick rs ks, ruOk (N : Int) r = true := by
  intro r hr
  obtain ⟨j, hj, rfl⟩ := List.mem_map.1 hr
  rw [List.getD_eq_getElem?_getD, List.getElem?_eq_getElem (hk j hj)]
  exact h _ (List.getElem_mem _)
theorem pick_all (rs : List Ru) : pick rs (List.range rs.length) = rs := by
  apply List.ext_getElem?
  intro i
  unfold pick
  rw [List.getElem?_map]
  by_cases h : i < rs.length
  · rw [List.getElem?_range h, Option.map_some, List.getD_eq_getElem?_getD, List.getElem?_eq_getElem h]
    rfl
  · rw [List.getElem?_eq_none (by simpa using h), List.getElem?_eq_none (by omega)]
    rfl
theorem steps_len (N : Nat) (axis : Int) (rk : List Ru) : (stepsM N axis rk).length ≤ 2 * N + 2 * rk.length ∧ 2 * N ≤ (stepsM N axis rk).length := by
  have h : ∀ r : Ru, (ruS N axis r).length ≤ 2 := by
    intro r
    unfold ruS
    repeat' split
    all_goals simp
  have h2 : ∀ l : List Ru, (l.flatMap (ruS N axis)).length ≤ 2 * l.length := by
    intro l
    induction l with
    | nil => simp
    | cons r l ih =>
      have := h r
      rw [List.flatMap_cons, List.length_append, List.length_cons]
      omega
  have := h2 rk
  unfold stepsM
  rw [List.length_append, preS_len]
  omega
theorem leastM_any (N : Nat) (axis : Int) (u uk : Option Addr) (p po l c q qo K ck : Nat) (rs : List Ru) (ks : List Nat) (w : World) (h1 : 1 ≤ N) (h2 : N ≤ 24) (hax : axis = 0 ∨ axis = 1)
    (HL : rs.length = l) (hl : l ≤ 60) (HKL : ks.length = K) (hK : K ≤ 60)
    (HX : l ≠ 0 → u = some ⟨p, po, none⟩ ∧ p < w.heap.size ∧ RusAt w p po rs)
    (HY : K ≠ 0 → uk = some ⟨q, qo, none⟩ ∧ q < w.heap.size ∧ IntsAt w q qo (nats ks))
    (HKS : ∀ j ∈ ks, j < rs.length) (HOK : ∀ r ∈ rs, ruOk (N : Int) r = true) :
    Calls Try.prog 52 #[skv (N : Int) u l c, .slice uk K ck, .int .i64 axis] w fun e w' => ∃ g, e = .returned (.tuple #[.slice (some ⟨g, 0, none⟩) (N + 1) (N + 1), .bool (keptM N axis (pick rs ks))]) ∧ w.heap.size ≤ g ∧ iblk w' g 3 (goM N axis (pick rs ks)).1 ∧ Below w.heap.size w w' := by
  have hs := steps_len N axis (pick rs ks)
  rw [pick_len, HKL] at hs
  exact least_core N axis (.slice uk K ck) u l c (stepsM N axis (pick rs ks)) (goM N axis (pick rs ks)).1 (goM N axis (pick rs ks)).2 w h1 h2
    (hide fun W hW => steps_any N axis u uk p po l c q qo K ck rs ks W h1 h2 (by omega) (by omega) (hide HL) hl (hide HKL) hK
      (hide fun h => ⟨(HX h).1, Nat.lt_of_lt_of_le (HX h).2.1 hW.size, (HX h).2.2.bel hW (HX h).2.1⟩)
      (hide fun h => ⟨(HY h).1, Nat.lt_of_lt_of_le (HY h).2.1 hW.size, (HY h).2.2.below hW (HY h).2.1⟩) (hide HKS) (hide HOK))
    (by omega) (by omega) (hide (mem_stepsM (pick_ok HOK HKS) hax)) (hide rfl)
theorem keepM_any (N : Nat) (u uk : Option Addr) (p po l c q qo K ck : Nat) (rs : List Ru) (ks : List Nat) (w : World) (h1 : 1 ≤ N) (h2 : N ≤ 24)
    (HL : rs.length = l) (hl : l ≤ 60) (HKL : ks.length = K) (hK : K ≤ 60)
    (HX : l ≠ 0 → u = some ⟨p, po, none⟩ ∧ p < w.heap.size ∧ RusAt w p po rs)
    (HY : K ≠ 0 → uk = some ⟨q, qo, none⟩ ∧ q < w.heap.size ∧ IntsAt w q qo (nats ks))
    (HKS : ∀ j ∈ ks, j < rs.length) (HOK : ∀ r ∈ rs, ruOk (N : Int) r = true) :
    Calls Try.prog 27 #[skv (N : Int) u l c, .slice uk K ck] w fun e w' => ∃ v, e = .returned (.tuple #[v, .bool (keptP N (pick rs ks))]) ∧ Row w' (w.heap.size + 1) 42 2 v N (ptsOf (goM N 0 (pick rs ks)).1 (goM N 1 (pick rs ks)).1 N) ∧ Below w.heap.size w w' := by
  have hlen : ∀ axis, (goM N axis (pick rs ks)).1.length = N + 1 := fun axis => by unfold goM; rw [go_len, zer_len]
  have hx : ∀ (axis : Int), (axis = 0 ∨ axis = 1) → ∀ W, Below w.heap.size w W → Calls Try.prog 52 #[skv (N : Int) u l c, .slice uk K ck, .int .i64 axis] W fun e w' => ∃ g, e = .returned (.tuple #[.slice (some ⟨g, 0, none⟩) (N + 1) (N + 1), .bool (keptM N axis (pick rs ks))]) ∧ W.heap.size ≤ g ∧ iblk w' g 3 (goM N axis (pick rs ks)).1 ∧ Below W.heap.size W w' :=
    fun axis hax W hW => leastM_any N axis u uk p po l c q qo K ck rs ks W h1 h2 hax HL hl HKL hK
      (fun h => ⟨(HX h).1, Nat.lt_of_lt_of_le (HX h).2.1 hW.size, (HX h).2.2.bel hW (HX h).2.1⟩)
      (fun h => ⟨(HY h).1, Nat.lt_of_lt_of_le (HY h).2.1 hW.size, (HY h).2.2.below hW (HY h).2.1⟩) HKS HOK
  rw [kept_same (pick_ok HOK HKS)]
  exact keeps_core N (.slice uk K ck) u l c _ _ _ _ w h1 h2 (hide (hlen 0)) (hide (hlen 1)) (hide (hx 0 (.inl rfl))) (hide (hx 1 (.inr rfl)))
theorem spans_le (rk : List Ru) : (rk.flatMap spR).length ≤ 2 * rk.length := by
  induction rk with
  | nil => simp
  | cons r l ih =>
    have := spR_len r
    rw [List.flatMap_cons, List.length_append, List.length_cons]
    omega
theorem lowP_any (N : Nat) (u : Option Addr) (p po K c : Nat) (rk : List Ru) (w : World) (h2 : N ≤ 24)
    (HL : rk.length = K) (hK : K ≤ 60) (HX : K ≠ 0 → u = some ⟨p, po, none⟩ ∧ p < w.heap.size ∧ RusAt w p po rk) (HOK : ∀ r ∈ rk, ruOk (N : Int) r = true) :
    Calls Try.prog 22 #[.int .i64 (N : Int), .slice u K c] w fun e w' => ∃ v, e = .returned (.tuple #[v, .bool (keptP N rk)]) ∧ (keptP N rk = true → ∃ g, v = .slice (some ⟨g, 0, none⟩) (2 * N + 1) (2 * N + 1) ∧ w.heap.size ≤ g ∧ iblk w' g 3 (goP N rk).1) ∧ Below w.heap.size w w' := by
  have hs := spans_le rk
  refine (lowest_core N (2 * N + 1) (rk.flatMap spR).length (.slice u K c) (rk.flatMap spR) (flatV (rk.flatMap spR)) (goP N rk).1 (goP N rk).2 w h2 rfl
    (hide fun W hW => (spansOf_any (N : Int) u p po K c _ _ rk W (hide ⟨rfl, rfl⟩) (by omega) (hide HL) hK (hide fun h => ⟨(HX h).1, Nat.lt_of_lt_of_le (HX h).2.1 hW.size, (HX h).2.2.bel hW (HX h).2.1⟩) (hide HOK)).mono fun e w' ⟨v, h1, h3, h4, h5⟩ => ⟨v, h1, h3, by omega, h5⟩)
    (hide rfl) (hide rfl) (hide fun s hs => ?_) (hide rfl)).mono ?_
  · obtain ⟨r, hr, h3⟩ := List.mem_flatMap.1 hs
    exact spR_in (HOK r hr) s h3
  · rintro e w' ⟨v, h1, h3, _, h5⟩
    refine ⟨v, h1, fun hk => h3 ?_, h5⟩
    unfold keptP at hk
    rw [Bool.and_eq_true] at hk
    exact hk.1

/-- what is not kept -/
def badK (N : Nat) (rs : List Ru) (ks : List Nat) : Bool := !keptP N (pick rs ks)
/-- the answer: how many points, their numbers, the code, the core -/
def outN (n : Int) (rs : List Ru) : Nat := if skOk n rs = true then if keptP n.toNat rs = true then n.toNat else 0 else 0
def outP (n : Int) (rs : List Ru) : List Int := if skOk n rs = true then if keptP n.toNat rs = true then ptsP (goP n.toNat rs).1 n.toNat else [] else []
def outC (n : Int) (rs : List Ru) : Int := if skOk n rs = true then if keptP n.toNat rs = true then 0 else 15 else 1
def outK (n : Int) (rs : List Ru) : List Nat := if skOk n rs = true then if keptP n.toNat rs = true then [] else coreGo (badK n.toNat rs) rs.length (List.range rs.length) else []
theorem row_zero (w : World) (B t k : Nat) (hk : 0 < k) (g : Nat) : ∃ u cap, Value.slice (some ⟨g, 0, none⟩) 0 0 = .slice u 0 cap := ⟨_, _, rfl⟩
/-- a slice of n elements of k numbers, where it is not empty -/
def Sl (w : World) (v : Value) (n : Nat) (L : List Int) : Prop := ∃ u cap, v = .slice u n cap ∧ (n ≠ 0 → ∃ g, u = some ⟨g, 0, none⟩ ∧ g < w.heap.size ∧ IntsAt w g 0 L)
theorem Row.sl {w : World} {B t k n : Nat} {v : Value} {L : List Int} (h : Row w B t k v n L) : Sl w v n L := by
  obtain ⟨u, cap, hv, hf⟩ := h.form
  exact ⟨u, cap, hv, fun hn => by obtain ⟨g, h1, _, h3, h4⟩ := hf hn; exact ⟨g, h1, h3, h4⟩⟩
theorem sl_empty (w : World) (u : Option Addr) (c : Nat) : Sl w (.slice u 0 c) 0 [] := ⟨u, c, rfl, fun h => absurd rfl h⟩
theorem row_of_iblk {w : World} {B g t k n : Nat} {L : List Int} (h : iblk w g t L) (hl : L.length = n * k) (hB : B ≤ g) (hn : n ≤ 1000) : Row w B t k (.slice (some ⟨g, 0, none⟩) n n) n L :=
  ⟨by simpa using hl, .inr ⟨g, n, _, rfl, hB, h, Nat.le_refl _, by unfold maxLen; omega, by simpa using hl, by rw [List.toList_toArray]; exact List.take_of_length_le (by simp [hl])⟩⟩

theorem solveM_any (n : Int) (u : Option Addr) (p po l c : Nat) (rs : List Ru) (w : World) (HL : rs.length = l) (hm : l ≤ 9223372036854775807)
    (HX : l ≠ 0 → u = some ⟨p, po, none⟩ ∧ p < w.heap.size ∧ RusAt w p po rs) :
    Calls Try.prog 8 #[skv n u l c] w fun e w' => ∃ v1 v2, e = .returned (.tuple #[v1, .int .i64 (outC n rs), v2]) ∧ Sl w' v1 (outN n rs) (outP n rs) ∧ Sl w' v2 (outK n rs).length (nats (outK n rs)) ∧ Below w.heap.size w w' := by
  have hX : ∀ W, Below w.heap.size w W → l ≠ 0 → u = some ⟨p, po, none⟩ ∧ p < W.heap.size ∧ RusAt W p po rs := fun W hW h => ⟨(HX h).1, Nat.lt_of_lt_of_le (HX h).2.1 hW.size, (HX h).2.2.bel hW (HX h).2.1⟩
  have hok : ∀ W, Below w.heap.size w W → Calls Try.prog 20 #[skv n u l c] W fun e w' => e = .returned (.bool (skOk n rs)) ∧ Below W.heap.size W w' := fun W hW => okM_any n u p po l c rs W (hide HL) hm (hide (hX W hW))
  unfold outN outP outC outK
  cases hsk : skOk n rs with
  | false =>
    rw [hsk] at hok
    refine (solveM_bad n u l c w (hide hok)).mono ?_
    rintro e w' ⟨g, g2, rfl, hb⟩
    exact ⟨_, _, rfl, sl_empty _ _ _, sl_empty _ _ _, hb⟩
  | true =>
    rw [hsk] at hok
    obtain ⟨n1, n2, l1, hr⟩ := ok_parts hsk
    obtain ⟨N, rfl⟩ : ∃ N : Nat, n = (N : Int) := ⟨n.toNat, by omega⟩
    rw [Int.toNat_natCast]
    have hks : ∀ j ∈ List.range l, j < rs.length := fun j hj => by rw [HL]; simpa using hj
    have hpk : pick rs (List.range l) = rs := by rw [← HL]; exact pick_all rs
    simp only [if_true]
    cases hk : keptP N rs with
    | true =>
      refine (solveM_kept N u l c (ptsOf (goM N 0 rs).1 (goM N 1 rs).1 N) w (by omega) (hide hok) (hide fun W hW uk q ck hq => ?_)).mono ?_
      · have := keepM_any N u uk p po l c q 0 l ck rs (List.range l) W (by omega) (by omega) HL (by omega) (by simp) (by omega) (hX W hW) hq hks hr
        rw [hpk, hk] at this
        exact this
      · rintro e w' ⟨v, g2, rfl, hrow, hb⟩
        rw [← pts_same hr hk] at hrow
        exact ⟨_, _, rfl, hrow.sl, sl_empty _ _ _, hb⟩
    | false =>
      refine (solveM_core N u l c (badK N rs) (coreGo (badK N rs) l (List.range l)) w (by omega) (hide hok) (hide fun W hW ks uk q K ck h3 h4 h5 h6 => ?_) (hide ?_) (hide rfl)).mono ?_
      · have hks2 : ∀ j ∈ ks, j < rs.length := fun j hj => by rw [HL]; exact h5 j hj
        refine (keepM_any N u uk p po l c q 0 K ck rs ks W (by omega) (by omega) HL (by omega) h3 h4 (hX W hW) h6 hks2 hr).mono ?_
        rintro e w' ⟨v, rfl, _, hb⟩
        exact ⟨⟨v, by unfold badK; rw [Bool.not_not]⟩, hb⟩
      · unfold badK; rw [hpk, hk]; rfl
      · rintro e w' ⟨g, v, rfl, hrow, hb⟩
        subst HL
        exact ⟨_, _, rfl, sl_empty _ _ _, hrow.sl, hb⟩
theorem solveP_any (n : Int) (u : Option Addr) (p po l c : Nat) (rs : List Ru) (w : World) (HL : rs.length = l) (hm : l ≤ 9223372036854775807)
    (HX : l ≠ 0 → u = some ⟨p, po, none⟩ ∧ p < w.heap.size ∧ RusAt w p po rs) :
    Calls Try.prog 7 #[skv n u l c] w fun e w' => ∃ v1 v2, e = .returned (.tuple #[v1, .int .i64 (outC n rs), v2]) ∧ Row w' w.heap.size 42 2 v1 (outN n rs) (outP n rs) ∧ Row w' w.heap.size 3 1 v2 (outK n rs).length (nats (outK n rs)) ∧ (v1 = .slice none 0 0 ∨ v2 = .slice none 0 0) ∧ Below w.heap.size w w' := by
  have hX : ∀ W, Below w.heap.size w W → l ≠ 0 → u = some ⟨p, po, none⟩ ∧ p < W.heap.size ∧ RusAt W p po rs := fun W hW h => ⟨(HX h).1, Nat.lt_of_lt_of_le (HX h).2.1 hW.size, (HX h).2.2.bel hW (HX h).2.1⟩
  have hok : ∀ W, Below w.heap.size w W → Calls Try.prog 21 #[skv n u l c] W fun e w' => e = .returned (.bool (skOk n rs)) ∧ Below W.heap.size W w' := fun W hW => okP_any n u p po l c rs W (hide HL) hm (hide (hX W hW))
  unfold outN outP outC outK
  cases hsk : skOk n rs with
  | false =>
    rw [hsk] at hok
    refine (solveP_bad n u l c w (hide hok)).mono ?_
    rintro e w' ⟨rfl, hb⟩
    exact ⟨_, _, rfl, World.ownsRow_nil _ _ _ _, World.ownsRow_nil _ _ _ _, .inl rfl, hb⟩
  | true =>
    rw [hsk] at hok
    obtain ⟨n1, n2, l1, hr⟩ := ok_parts hsk
    obtain ⟨N, rfl⟩ : ∃ N : Nat, n = (N : Int) := ⟨n.toNat, by omega⟩
    rw [Int.toNat_natCast]
    simp only [if_true]
    have hlow : ∀ W, Below w.heap.size w W → Calls Try.prog 22 #[.int .i64 (N : Int), .slice u l c] W fun e w' => ∃ v, e = .returned (.tuple #[v, .bool (keptP N rs)]) ∧ (keptP N rs = true → ∃ g, v = .slice (some ⟨g, 0, none⟩) (2 * N + 1) (2 * N + 1) ∧ W.heap.size ≤ g ∧ iblk w' g 3 (goP N rs).1) ∧ Below W.heap.size W w' :=
      fun W hW => lowP_any N u p po l c rs W (by omega) HL (by omega) (hX W hW) hr
    cases hk : keptP N rs with
    | true =>
      rw [hk] at hlow
      refine (solveP_kept N (2 * N + 1) u l c (goP N rs).1 w (by omega) (by omega) rfl (hide (by unfold goP; rw [go_len, zer_len])) (hide hok) (hide fun W hW => (hlow W hW).mono ?_)).mono ?_
      · rintro e w' ⟨v, rfl, h3, hb⟩
        obtain ⟨g, rfl, h4, h5⟩ := h3 rfl
        exact ⟨g, rfl, h4, h5, hb⟩
      · rintro e w' ⟨g, rfl, hg, hi, hb⟩
        exact ⟨_, _, rfl, row_of_iblk hi (ptsP_len _ _) hg (by omega), World.ownsRow_nil _ _ _ _, .inr rfl, hb⟩
    | false =>
      rw [hk] at hlow
      refine (solveP_core (N : Int) u l c (coreGo (badK N rs) l (List.range l)) w (hide hok) (hide fun W hW => (hlow W hW).mono ?_) (hide fun W hW => ?_)).mono ?_
      · rintro e w' ⟨v, rfl, _, hb⟩
        exact ⟨⟨v, rfl⟩, hb⟩
      · refine coreP_core N u l c rs (badK N rs) _ W (by omega) (hide fun V hV ks uk q K ck h3 h4 h5 h6 => ?_) (hide fun V ks g K h3 h4 h5 h6 => ?_) (hide rfl)
        · exact some_any (N : Int) u uk p po l c q 0 K ck rs ks V (hide HL) (hide h3) h4 (by omega) (hide (hX V (bc hW hV))) (hide h6) (hide fun j hj => by rw [HL]; exact h5 j hj)
        · have hks2 : ∀ j ∈ ks, j < rs.length := fun j hj => by rw [HL]; exact h5 j hj
          refine (lowP_any N (some ⟨g, 0, none⟩) g 0 K K (pick rs ks) V (by omega) (by rw [pick_len, h3]) h4 (fun _ => ⟨rfl, h6.lt, rusAt_flat h6⟩) (pick_ok hr hks2)).mono ?_
          rintro e w' ⟨v, rfl, _, hb⟩
          exact ⟨⟨v, by unfold badK; rw [Bool.not_not]⟩, hb⟩
      · rintro e w' ⟨v, rfl, hrow, hb⟩
        subst HL
        exact ⟨_, _, rfl, World.ownsRow_nil _ _ _ _, hrow, .inl rfl, hb⟩
end Go.Proofs.Ytchdmigeopmacaa
