/-
  The program's question whether a shop and its jobs are right.
-/
import Derived.Test.YtbgekppggakdoaaPnA
import Derived.Maps.OwnSet
namespace Go.Proofs.Ytbgekppggakdoaa
open Go.ChangeShapes Go.WideShapes Go.ChangeAt Go.RowKit Go.Maps Go.WideMaps
set_option linter.unusedVariables false
set_option linter.unusedSimpArgs false

def keyL (s : ByteArray) : Lit := .string s.data.toList
theorem keyL_inj {s t : ByteArray} (h : keyL s = keyL t) : s = t := by
  unfold keyL at h
  cases s; cases t
  simp only [Lit.string.injEq] at h
  rw [Array.toList_inj.1 h]
def jb0 : Jb := ⟨ByteArray.empty, 0, none, 0, 0, 0, 0, []⟩
def Dn (J : List Jb) : Nat → DataW Unit
  | 0 => .map []
  | k + 1 => (Dn J k).put (keyL ((J[k]?).getD jb0).nm) (.lit (.int .i64 (k : Int)))
theorem keyL_key (s : ByteArray) : WideAt.IsKeyLit (keyL s) := by
  unfold keyL
  exact trivial
theorem Dn_tidy (J : List Jb) : ∀ k, Tidy (Dn J k)
  | 0 => tidy_empty
  | k + 1 => (Dn_tidy J k).put (keyL_key _) _
theorem Dn_has (J : List Jb) (s : ByteArray) : ∀ k, k ≤ J.length → (has (Dn J k) (keyL s) = true ↔ s ∈ names (J.take k)) := by
  intro k
  induction k with
  | zero => intro _; simp [Dn, has, names]
  | succ k ih =>
    intro hk
    have hx : J[k]? = some J[k] := List.getElem?_eq_getElem (by omega)
    rw [names_take hx, List.mem_append, List.mem_singleton, ← ih (by omega)]
    show has ((Dn J k).put (keyL ((J[k]?).getD jb0).nm) _) (keyL s) = true ↔ _
    rw [hx, Option.getD_some]
    by_cases e : s = J[k].nm
    · subst e
      rw [has_put_same (Dn_tidy J k).isMap (keyL_key _)]
      simp
    · rw [has_put_other (fun h => e (keyL_inj h))]
      simp [e]
theorem Dn_size (J : List Jb) : ∀ k, k ≤ J.length → Maps.size (Dn J k) ≤ k ∧ (Maps.size (Dn J k) = k ↔ (names (J.take k)).Nodup) := by
  intro k
  induction k with
  | zero => intro _; simp [Dn, Maps.size, names]
  | succ k ih =>
    intro hk
    have hx : J[k]? = some J[k] := List.getElem?_eq_getElem (by omega)
    obtain ⟨i1, i2⟩ := ih (by omega)
    have hh := Dn_has J J[k].nm k (by omega)
    have e : Maps.size (Dn J (k + 1)) = if has (Dn J k) (keyL J[k].nm) then Maps.size (Dn J k) else Maps.size (Dn J k) + 1 := by
      show Maps.size ((Dn J k).put (keyL ((J[k]?).getD jb0).nm) _) = _
      rw [hx, Option.getD_some]
      exact size_put (Dn_tidy J k) _
    rw [e, names_take hx]
    by_cases hm : has (Dn J k) (keyL J[k].nm) = true
    · rw [if_pos hm]
      refine ⟨by omega, fun h => by omega, fun h => ?_⟩
      exact absurd rfl ((List.nodup_append.1 h).2.2 _ (hh.1 hm) _ (by simp))
    · rw [if_neg hm]
      refine ⟨by omega, fun h => ?_, fun h => ?_⟩
      · rw [List.nodup_append]
        refine ⟨i2.1 (by omega), by simp, ?_⟩
        intro a ha b hb he
        simp only [List.mem_singleton] at hb
        rw [he, hb] at ha
        exact hm (hh.2 ha)
      · have := i2.2 (List.nodup_append.1 h).1
        omega
theorem Dn_lt (J : List Jb) : (decide ((Maps.size (Dn J J.length) : Int) < (J.length : Int))) = !decide (names J).Nodup := by
  obtain ⟨h1, h2⟩ := Dn_size J J.length (Nat.le_refl _)
  rw [List.take_length] at h2
  rw [Bool.eq_iff_iff, Bool.not_eq_true', decide_eq_true_eq, decide_eq_false_iff_not, ← h2]
  omega
theorem omap_blk {P : Program} {k b n : Nat} {R : Value → Option (DataW Unit × List MemPlace)} {D : DataW Unit} {w w' : World} (h : w.ownsMap P k R b n D) (hb : w'.heap[b]? = w.heap[b]?) : w'.ownsMap P k R b n D := by
  obtain ⟨es, clock, hb', r⟩ := h
  exact ⟨es, clock, hb.trans hb', r⟩
theorem lawK : Keyed Try.prog 9 := string_keyed Try.underlying9
set_option maxHeartbeats 4000000 in
set_option maxRecDepth 100000 in
theorem twi_any (u : Option Addr) (p po n cu : Nat) (J : List Jb) (w : World) (hl : J.length = n) (hn : n ≤ 4096) (hu : Jbs w u p po J) :
    Calls Try.prog 34 #[.slice u n cu] w fun e w' => e = .returned (.bool (!decide (names J).Nodup)) ∧ Below w.heap.size w w' := by
  rw [← Dn_lt, hl]
  have HU := hide hu
  have HL := hide hl
  clear hu hl
  have n0 : (0 : Int) ≤ (n : Int) := Int.natCast_nonneg _
  have hmm := @run_makeMap Try.prog
  generalize hT : decide (((Maps.size (Dn J n) : Nat) : Int) < (n : Int)) = T
  have HT := hide hT
  clear hT
  go_enter Try.func34, Try.ntmps34
  go_wp2_with fail
  go_loopw [9] (fun z wr => ∃ k : Nat, k ≤ n ∧ z = .int .i64 (k : Int) ∧ wr.ownsMap Try.prog 9 (plainElem Try.prog 3) w.heap.size k (Dn J k) ∧ Below w.heap.size w wr)
    (fun z _ => n - (intOf z).toNat)
  case atStart => exact ⟨0, Nat.zero_le _, rfl, World.ownsMap_made _ _ _ _, (Below.refl _ _).alloc (Nat.le_refl _) _⟩
  case round =>
    obtain ⟨k, hk, rfl, hown, hnx⟩ := hrel
    by_cases h : k < n
    · have i1 : (k : Int) < (n : Int) := by omega
      have i0 : (0 : Int) ≤ (k : Int) := Int.natCast_nonneg _
      have iz : decide ((k : Int) < (n : Int)) = true := decide_eq_true i1
      obtain ⟨j, hx⟩ := get_some (unhide HL) h
      obtain ⟨rfl, pw, k0, k1, k2⟩ := ((unhide HU).bel hnx).at hx
      have hjs := ((unhide HU).each j (List.mem_of_getElem? hx)).nsz
      obtain ⟨s, due, su, sn, sc, sp, so, st⟩ := j
      simp only at k0 k1 k2 hjs
      have HX := hide hx
      have hkey : keyOf Try.prog 9 (.string s) = some (keyL s) := keyOf_string_mk Try.underlying9 hjs
      have hval : plainElem (H := Unit) Try.prog 3 (.int .i64 (k : Int)) = some (.lit (.int .i64 (k : Int)), []) := plainElem_int Try.underlying3 (by simp [Lit.wf, IntKind.min, IntKind.max, IntKind.bits, IntKind.signed]; omega)
      have hownA : (wr.alloc (.cells #[.string s, .int .i64 due, .slice su sn sc] 58)).ownsMap Try.prog 9 (plainElem Try.prog 3) w.heap.size k (Dn J k) := omap_blk hown (by
        have := hown.lt
        show (wr.heap.push _)[w.heap.size]? = _
        rw [Array.getElem?_push, if_neg (by omega)])
      have HNX := hide hnx
      have HOWN := hide hown
      clear pw hx hnx hown hjs
      go_wp2_with (first
        | (at_mapUpdate; refine wpList_mapUpdate_own _ rfl _ _ _ 104 rfl 9 3 lawK Try.underlying104 (plainElem (H := Unit) Try.prog 3) w.heap.size k _ rfl hownA (by unfold maxLen; omega) _ _ _ rfl rfl hkey _ [] hval ?_; intro w1 hown1 hgrow1)
        | go_in)
      have HO1 := hide hown1
      have HG1 := hide hgrow1
      clear hown1 hgrow1 hownA
      go_wp2_with fail
      go_roundw
      case rel =>
        refine ⟨k + 1, h, by simp, ?_, ?_⟩
        · have e : Dn J (k + 1) = (Dn J k).put (keyL s) (.lit (.int .i64 (k : Int))) := by
            show (Dn J k).put (keyL ((J[k]?).getD jb0).nm) _ = _
            rw [unhide HX, Option.getD_some]
          rw [e]
          exact unhide HO1
        · exact ((unhide HNX).alloc (unhide HNX).size _).grown (unhide HG1) (Nat.le_trans (unhide HNX).size (by simp)) (fun j hj => by cases hj; exact Nat.le_refl _)
      case measure => simp only [intOf]; omega
    · have i1 : ¬ (k : Int) < (n : Int) := by omega
      have iz : decide ((k : Int) < (n : Int)) = false := decide_eq_false i1
      have en : k = n := by omega
      subst en
      have HNX := hide hnx
      have hT := unhide HT
      clear hnx
      generalize hzs : Maps.size (Dn J k) = zs at *
      by_cases hq : zs < k
      · have q1 : (zs : Int) < (k : Int) := by omega
        have q2 : decide (zs < k) = true := decide_eq_true hq
        have q3 : decide ((zs : Int) < (k : Int)) = true := decide_eq_true q1
        rw [q3] at hT
        subst hT
        go_wp2_with (first
          | (at_len; refine wpList_len_own _ rfl _ 104 rfl 9 3 Try.underlying104 _ w.heap.size k _ rfl hown ?_; rw [hzs])
          | go_in)
        go_ret
        exact ⟨rfl, unhide HNX⟩
      · have q1 : ¬ (zs : Int) < (k : Int) := by omega
        have q2 : decide (zs < k) = false := decide_eq_false hq
        have q3 : decide ((zs : Int) < (k : Int)) = false := decide_eq_false q1
        rw [q3] at hT
        subst hT
        go_wp2_with (first
          | (at_len; refine wpList_len_own _ rfl _ 104 rfl 9 3 Try.underlying104 _ w.heap.size k _ rfl hown ?_; rw [hzs])
          | go_in)
        go_ret
        exact ⟨rfl, unhide HNX⟩
set_option maxHeartbeats 4000000 in
theorem shP_any (N S L : Int) (u : Option Addr) (p po n c : Nat) (J : List Jb) (w : World) (hl : J.length = n) (hn : n ≤ 9223372036854775807) (hu : Jbs w u p po J) :
    Calls Try.prog 11 #[.agg #[.int .i64 N, .int .i64 S, .int .i64 L], .slice u n c] w fun e w' => e = .returned (.bool (shOk N S L J)) ∧ Below w.heap.size w w' := by
  have HQ : Hid (shOk N S L J = (inR 1 6 N && (inR 0 1000 S && (inR 1 1000 L && (decide (n ≤ 20) && (J.all (jbOk N L) && decide (names J).Nodup)))))) := hide (by unfold shOk; rw [hl])
  have HA := hide (ba (Below.refl w.heap.size w) (.cells #[.int .i64 N, .int .i64 S, .int .i64 L] 27))
  have HV := hide (vb_new w 27 [.int .i64 N, .int .i64 S, .int .i64 L] w.heap.size rfl)
  have HC : Hid (inR 1 6 N = true → ∀ X, Below w.heap.size w X → Calls Try.prog 32 #[.slice u n c, .func (.func 33) #[.agg #[.int .i64 N, .int .i64 S, .int .i64 L]] #[]] X fun e w' => e = .returned (.bool (!J.all (jbOk N L))) ∧ Below X.heap.size X w') :=
    hide (fun h X hX => cnj_any N S L u p po n c J X (inR_iff.1 h).1 (inR_iff.1 h).2 hl hn (hu.bel hX))
  have HT : Hid (n ≤ 20 → ∀ X, Below w.heap.size w X → Calls Try.prog 34 #[.slice u n c] X fun e w' => e = .returned (.bool (!decide (names J).Nodup)) ∧ Below X.heap.size X w') :=
    hide (fun h X hX => twi_any u p po n c J X hl (by omega) (hu.bel hX))
  have n0 : (0 : Int) ≤ (n : Int) := Int.natCast_nonneg _
  clear hu hl
  generalize decide (names J).Nodup = nd at *
  go_enter Try.func11, Try.ntmps11
  go_wp2_with fail
  refine (bt_any N 1 6 _).mono ?_
  rintro e w' ⟨rfl, rfl⟩
  cases t1 : inR 1 6 N with
  | false =>
    go_wp2_with fail
    go_ret
    exact ⟨by rw [unhide HQ, t1]; rfl, unhide HA⟩
  | true =>
    have HC' := hide (unhide HC t1)
    go_wp2_with fail
    refine (bt_any S 0 1000 _).mono ?_
    rintro e w' ⟨rfl, rfl⟩
    cases t2 : inR 0 1000 S with
    | false =>
      go_wp2_with fail
      go_ret
      exact ⟨by rw [unhide HQ, t1, t2]; rfl, unhide HA⟩
    | true =>
      go_wp2_with fail
      refine (bt_any L 1 1000 _).mono ?_
      rintro e w' ⟨rfl, rfl⟩
      cases t3 : inR 1 1000 L with
      | false =>
        go_wp2_with fail
        go_ret
        exact ⟨by rw [unhide HQ, t1, t2, t3]; rfl, unhide HA⟩
      | true =>
        by_cases h4 : n ≤ 20
        rotate_left
        · have t4 : decide ((n : Int) ≤ 20) = false := decide_eq_false (by omega)
          go_wp2_with fail
          go_ret
          exact ⟨by rw [unhide HQ, t1, t2, t3, decide_eq_false h4]; rfl, unhide HA⟩
        have t4 : decide ((n : Int) ≤ 20) = true := decide_eq_true (by omega)
        have HT' := hide (unhide HT h4)
        go_wp2_with fail
        refine (unhide HC' _ (unhide HA)).mono ?_
        rintro e w1 ⟨rfl, hb⟩
        have HB1 := hide (bc (unhide HA) hb)
        clear hb
        cases t5 : J.all (jbOk N L) with
        | false =>
          go_wp2_with fail
          go_ret
          exact ⟨by rw [unhide HQ, t1, t2, t3, t5]; simp, unhide HB1⟩
        | true =>
          go_wp2_with fail
          refine (unhide HT' _ (unhide HB1)).mono ?_
          rintro e w2 ⟨rfl, hb⟩
          have HB2 := hide (bc (unhide HB1) hb)
          clear hb
          cases nd <;>
          · go_wp2_with fail
            go_ret
            exact ⟨by rw [unhide HQ, t1, t2, t3, t5, decide_eq_true h4]; rfl, unhide HB2⟩
end Go.Proofs.Ytbgekppggakdoaa
