/- The map from names to the numbers of those done; owners held against one another. -/
import Derived.Test.YtkiplmabjeadgaaGreatBdApQ
import Derived.Test.YtkiplmabjeadgaaGreatSe15Q
import Derived.Maps.OwnSet
import Derived.Maps.Ext
namespace Go.Proofs.YtkiplmabjeadgaaGreat
set_option maxRecDepth 100000
set_option maxHeartbeats 16000000
open Go.ChangeShapes Go.WideShapes Go.ChangeAt Go.RowKit Go.Maps Go.WideMaps
set_option linter.unusedVariables false
set_option linter.unusedSimpArgs false
def MpN (w : World) (b n : Nat) (fs : List Ft) (l : List Nat) : Prop := ∃ D, w.ownsMap Tryz.prog 9 (plainElem (H := Unit) Tryz.prog 3) b n D ∧ ∀ s, D.atKey (keyL s) (.lit (.int .i64 0)) = .lit (.int .i64 (byOf fs l s : Int))
theorem MpN.lt {w : World} {b n : Nat} {fs : List Ft} {l : List Nat} (h : MpN w b n fs l) : b < w.heap.size := by
 obtain ⟨D, h, _⟩ := h;exact h.lt
theorem MpN.blk {w w' : World} {b n : Nat} {fs : List Ft} {l : List Nat} (h : MpN w b n fs l) (hb : w'.heap[b]? = w.heap[b]?) : MpN w' b n fs l := by
 obtain ⟨D, ⟨es, clock, hb', r⟩, hd⟩ := h;exact ⟨D, ⟨es, clock, hb.trans hb', r⟩, hd⟩
theorem MpN.bel {w w' : World} {b n : Nat} {fs : List Ft} {l : List Nat} (h : MpN w b n fs l) (hb : Below w.heap.size w w') : MpN w' b n fs l := h.blk (hb.block b h.lt)
theorem MpN.made (w : World) (fs : List Ft) : MpN (w.alloc (.map #[] 0)) w.heap.size 0 fs [] := ⟨_, World.ownsMap_made w Tryz.prog 9 _, fun s => by simp [DataW.atKey, byOf, byL]⟩
theorem MpN.look {w : World} {b n : Nat} {fs : List Ft} {l : List Nat} (h : MpN w b n fs l) (s : ByteArray) (hs : s.size ≤ maxLen) :
  (Instr.lookup 82 (.map (some b)) (.string s) false).run Tryz.prog w = .ok (.int .i64 (byOf fs l s : Int)) w := by
 obtain ⟨D, h, hd⟩ := h;obtain ⟨v, ps, hrun, hv⟩ := World.ownsMap.lookup (t := 82) (e := 3) h lawK Tryz.underlying82 (zero3 w) (zd := .lit (.int .i64 0)) (zp := []) (plainElem_int Tryz.underlying3 (by decide)) (key := .string s) (kl := keyL s) (keyOf_string_mk Tryz.underlying9 hs);obtain ⟨c, rfl, hc, _⟩ := plainElem_int_inv Tryz.underlying3 hv;have hc' := congrArg Prod.fst hc;simp only at hc';rw [hd s] at hc';simp only [DataW.lit.injEq, Lit.int.injEq, true_and] at hc';rw [hrun, hc']
theorem byOf_app (fs : List Ft) (l : List Nat) (i : Nat) (s : ByteArray) : byOf fs (l ++ [i]) s = if sEq (fs.getD i ft0).nm s = true then l.length + 1 else byOf fs l s := by
 have gd : ∀ n, n < l.length → (l ++ [i]).getD n 0 = l.getD n 0 := by
  intro n hn;rw [List.getD_eq_getElem?_getD, List.getD_eq_getElem?_getD, List.getElem?_append_left hn]
 have ge : (l ++ [i]).getD l.length 0 = i := by
  rw [List.getD_eq_getElem?_getD, List.getElem?_append_right (Nat.le_refl _), Nat.sub_self];rfl
 have key : ∀ n, n ≤ l.length → byL fs (l ++ [i]) s n = byL fs l s n := by
  intro n
  induction n with
  | zero => intro _; rfl
  | succ n ih =>
   intro hn
   show (if sEq (fs.getD ((l ++ [i]).getD n 0) ft0).nm s = true then n + 1 else byL fs (l ++ [i]) s n) = (if sEq (fs.getD (l.getD n 0) ft0).nm s = true then n + 1 else byL fs l s n)
   rw [ih (by omega), gd n (by omega)]
 unfold byOf;rw [List.length_append, List.length_singleton]
 show (if sEq (fs.getD ((l ++ [i]).getD l.length 0) ft0).nm s = true then l.length + 1 else byL fs (l ++ [i]) s l.length) = _
 rw [key _ (Nat.le_refl _), ge]
theorem MpN.store {w : World} {b n : Nat} {fs : List Ft} {l : List Nat} (h : MpN w b n fs l) (hn : n < maxLen) (i : Nat) (hs : (fs.getD i ft0).nm.size ≤ maxLen) (hl : l.length ≤ 100000) :
  ∃ w', (Instr.mapUpdate 82 (.map (some b)) (.string (fs.getD i ft0).nm) (.int .i64 ((l.length + 1 : Nat) : Int))).run Tryz.prog w = .ok () w' ∧ MpN w' b (n + 1) fs (l ++ [i]) ∧ w.mapTurned w' b := by
 obtain ⟨D, h, hd⟩ := h;have hwf : (Lit.int .i64 ((l.length + 1 : Nat) : Int)).wf = true := wf64 (by omega);obtain ⟨w', h1, h2, h3⟩ := h.store (kl := keyL (fs.getD i ft0).nm) lawK Tryz.underlying82 hn (keyOf_string_mk Tryz.underlying9 hs) (plainElem_int Tryz.underlying3 hwf);refine ⟨w', h1, ⟨_, h2, fun s => ?_⟩, h3⟩;rw [byOf_app]
 by_cases e : (fs.getD i ft0).nm = s
 ·rw [← e, sEq_refl, if_pos rfl, atKey_put_same h.isMap (keyL_key _)]
 ·rw [sEq_ne e, if_neg (by simp), atKey_put_other (fun h => e (keyL_inj h).symm), hd s]
theorem eqO (a1 a2 b1 b2 : Int) (W : World) : (binOp .eql 147 (.agg #[.int .i64 a1, .int .i64 a2]) (.agg #[.int .i64 b1, .int .i64 b2])).run Tryz.prog W = .ok (.bool (a1 == b1 && a2 == b2)) W := by
 cases h1 : a1 == b1 <;> cases h2 : a2 == b2
 all_goals go_simp
end Go.Proofs.YtkiplmabjeadgaaGreat
