/-
  The map from names to the numbers of features.
-/
import Derived.Test.YtkkmikgeppkhiaaChMath
import Derived.Maps.OwnSet
namespace Go.Proofs.Ytkkmikgeppkhiaa
open Go.ChangeShapes Go.WideShapes Go.ChangeAt Go.RowKit Go.Maps Go.WideMaps
set_option linter.unusedVariables false
set_option linter.unusedSimpArgs false

def keyL (s : ByteArray) : Lit := .string s.data.toList
theorem keyL_inj {s t : ByteArray} (h : keyL s = keyL t) : s = t := by
  unfold keyL at h
  cases s; cases t
  simp only [Lit.string.injEq] at h
  rw [Array.toList_inj.1 h]
theorem keyL_key (s : ByteArray) : WideAt.IsKeyLit (keyL s) := by
  unfold keyL
  exact trivial
def Dn (fs : List Ft) : Nat → DataW Unit
  | 0 => .map []
  | k + 1 => (Dn fs k).put (keyL (fs.getD k ft0).nm) (.lit (.int .i64 (k : Int)))
theorem Dn_tidy (fs : List Ft) : ∀ k, Tidy (Dn fs k)
  | 0 => tidy_empty
  | k + 1 => (Dn_tidy fs k).put (keyL_key _) _
theorem findN_succ {fs : List Ft} {k : Nat} {f : Ft} (h : fs[k]? = some f) (s : ByteArray) : findN (fs.take (k + 1)) s = match findN (fs.take k) s with | some i => some i | none => if sEq f.nm s then some k else none := by
  have hl : (fs.take k).length = k := by rw [List.length_take]; have := (List.getElem?_eq_some_iff.1 h).1; omega
  unfold findN
  rw [List.take_add_one, h, Option.toList_some, List.findIdx?_append]
  cases e : (fs.take k).findIdx? fun f => sEq f.nm s with
  | some i => rfl
  | none =>
    simp only [Option.none_or, List.findIdx?_cons, hl]
    cases e2 : sEq f.nm s <;> simp
theorem Dn_has (fs : List Ft) (s : ByteArray) : ∀ k, k ≤ fs.length → has (Dn fs k) (keyL s) = (findN (fs.take k) s).isSome := by
  intro k
  induction k with
  | zero => intro _; simp [Dn, has, findN]
  | succ k ih =>
    intro hk
    have hx : fs[k]? = some fs[k] := List.getElem?_eq_getElem (by omega)
    rw [findN_succ hx]
    show has ((Dn fs k).put (keyL (fs.getD k ft0).nm) _) (keyL s) = _
    rw [getD_at hx]
    by_cases e : fs[k].nm = s
    · subst e
      rw [has_put_same (Dn_tidy fs k).isMap (keyL_key _), sEq_refl]
      cases findN (fs.take k) fs[k].nm <;> rfl
    · rw [has_put_other (fun h => e (keyL_inj h).symm), ih (by omega), sEq_ne e]
      cases findN (fs.take k) s <;> rfl
theorem Dn_at (fs : List Ft) (s : ByteArray) (zd : DataW Unit) : ∀ k, k ≤ fs.length → (∀ (j : Nat) (g : Ft), j < k → fs[j]? = some g → findN (fs.take j) g.nm = none) → (Dn fs k).atKey (keyL s) zd = match findN (fs.take k) s with | some i => .lit (.int .i64 (i : Int)) | none => zd := by
  intro k
  induction k with
  | zero => intro _ _; simp [Dn, DataW.atKey, findN]
  | succ k ih =>
    intro hk hu
    have hx : fs[k]? = some fs[k] := List.getElem?_eq_getElem (by omega)
    have hno := hu k _ (by omega) hx
    rw [findN_succ hx]
    show ((Dn fs k).put (keyL (fs.getD k ft0).nm) _).atKey (keyL s) zd = _
    rw [getD_at hx]
    by_cases e : fs[k].nm = s
    · subst e
      rw [hno, sEq_refl]
      exact atKey_put_same (Dn_tidy fs k).isMap (keyL_key _) _ _
    · rw [sEq_ne e, atKey_put_other (fun h => e (keyL_inj h).symm), ih (by omega) (fun j g hj hg => hu j g (by omega) hg)]
      cases findN (fs.take k) s <;> rfl
/-- the map of the first k features lies in block b -/
def MapOf (w : World) (b : Nat) (fs : List Ft) (k : Nat) : Prop := w.ownsMap Try.prog 9 (plainElem (H := Unit) Try.prog 3) b k (Dn fs k)
theorem MapOf.blk {w w' : World} {b k : Nat} {fs : List Ft} (h : MapOf w b fs k) (hb : w'.heap[b]? = w.heap[b]?) : MapOf w' b fs k := by
  obtain ⟨es, clock, hb', r⟩ := h
  exact ⟨es, clock, hb.trans hb', r⟩
theorem MapOf.lt {w : World} {b k : Nat} {fs : List Ft} (h : MapOf w b fs k) : b < w.heap.size := by
  obtain ⟨es, clock, hb', r⟩ := h
  exact (Array.getElem?_eq_some_iff.1 hb').1
theorem MapOf.bel {w w' : World} {b k : Nat} {fs : List Ft} (h : MapOf w b fs k) (hb : Below w.heap.size w w') : MapOf w' b fs k := h.blk (hb.block b h.lt)
theorem lawK : Keyed Try.prog 9 := string_keyed Try.underlying9
theorem zero3 (w : World) : (zeroValue 3).run Try.prog w = .ok (.int .i64 0) w := by simp [go_sem]
def findZ (fs : List Ft) (s : ByteArray) : Int := match findN fs s with | some i => (i : Int) | none => 0
/-- what a look into the map gives -/
theorem MapOf.look {w : World} {b k : Nat} {fs : List Ft} (h : MapOf w b fs k) (hk : k ≤ fs.length) (hu : ∀ (j : Nat) (g : Ft), j < k → fs[j]? = some g → findN (fs.take j) g.nm = none) (s : ByteArray) (hs : s.size ≤ maxLen) :
    (Instr.lookup 97 (.map (some b)) (.string s) true).run Try.prog w = .ok (.tuple #[.int .i64 (findZ (fs.take k) s), .bool (findN (fs.take k) s).isSome]) w := by
  obtain ⟨v, ps, hrun, hv⟩ := World.ownsMap.look_ok (t := 97) (e := 3) h lawK Try.underlying97 (zero3 w) (zd := .lit (.int .i64 0)) (zp := []) (plainElem_int Try.underlying3 (by decide)) (key := .string s) (kl := keyL s) (keyOf_string_mk Try.underlying9 hs)
  obtain ⟨c, rfl, hc, _⟩ := plainElem_int_inv Try.underlying3 hv
  have hc' := congrArg Prod.fst hc
  simp only at hc'
  rw [Dn_at fs s _ k hk hu] at hc'
  rw [hrun, Dn_has fs s k hk]
  have : c = findZ (fs.take k) s := by
    unfold findZ
    cases e : findN (fs.take k) s with
    | none => rw [e] at hc'; simp only [DataW.lit.injEq, Lit.int.injEq, true_and] at hc'; exact hc'.symm
    | some i => rw [e] at hc'; simp only [DataW.lit.injEq, Lit.int.injEq, true_and] at hc'; exact hc'.symm
  rw [this]
end Go.Proofs.Ytkkmikgeppkhiaa
