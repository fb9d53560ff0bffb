/-
  The program asks of a list of points whether all are right; Turn of both sides.
-/
import Derived.Test.YtimkinpbimangaaPoints
import Derived.Test.YtimkinpbimangaaShelf
namespace Go.Proofs.Ytimkinpbimangaa
open Go.ChangeShapes Go.WideShapes Go.ChangeAt Go.RowKit Go.Shelf
set_option linter.unusedVariables false
set_option linter.unusedSimpArgs false

def encPt (x : Pt) : List Value := [.int .i64 x.1, .int .i64 x.2]
theorem enc_cells {w : World} {b off : Nat} {L : List Pt} (h : PtsAt w b off L) : ∀ j, j < L.length → ∀ i v, (encPt L[j]!)[i]? = some v → w.cell? ⟨b, off + j * 2 + i, none⟩ = some v := by
  intro j hj i v hi
  obtain ⟨p, hp⟩ : ∃ p, L[j]? = some p := ⟨_, List.getElem?_eq_getElem hj⟩
  have e : L[j]! = p := by rw [List.getElem!_eq_getElem?_getD, hp]; rfl
  rw [e] at hi
  have h1 := h j p hp
  match i, hi with
  | 0, hi => simp [encPt] at hi; rw [← hi]; exact h1.1
  | 1, hi => simp [encPt] at hi; rw [← hi]; exact h1.2
  | i + 2, hi => simp [encPt] at hi
theorem wrong_pred (w : World) : PredBelow Try.prog 63 #[] (fun x : Pt => .agg (encPt x).toArray) (fun x => !ptOk x) w := fun W x hb => by
  show Calls Try.prog 63 #[.agg #[.int .i64 x.1, .int .i64 x.2]] W _
  exact (wrong_ints x.1 x.2 W).mono fun e w' ⟨he, hw⟩ => ⟨he, hb.trans (hw.mono hb.size)⟩
theorem enters42 : ∀ args w, (callFunc 63 args).run Try.prog w = .ok (.enter 63 args) w := enters_of Try.func63 (by kernel_rfl) rfl
theorem any_not_all (L : List Pt) : (!(L.any fun x => !ptOk x)) = L.all ptOk := by
  induction L with
  | nil => rfl
  | cons x L ih => simp only [List.any_cons, List.all_cons, ← ih]; cases ptOk x <;> simp
set_option maxHeartbeats 1000000 in
/-- the program asks of each point of a list whether it is right -/
theorem ptsP_any (b off cap : Nat) (L : List Pt) (w : World) (hn : L.length ≤ 4611686018427387904) (hb : b < w.heap.size) (hc : PtsAt w b off L) :
    Calls Try.prog 39 #[.slice (some ⟨b, off, none⟩) L.length cap] w fun e w' => e = .returned (.bool (L.all ptOk)) ∧ Below w.heap.size w w' := by
  have hcon := AnyQ.slices_ContainsFunc Try.l62 2 Try.isAgg32 Try.sizeOf32 encPt (fun _ => rfl) (fun x => !ptOk x) 63 #[] enters42 b off L.length cap L w (wrong_pred w) (Nat.le_refl _) (by omega) hb (enc_cells hc)
  change Calls Try.prog 62 _ _ _ at hcon
  rw [List.take_length] at hcon
  rw [← any_not_all]
  generalize L.any (fun x => !ptOk x) = t at hcon ⊢
  generalize L.length = N at hcon ⊢
  clear hc hb
  have HC := hide hcon
  clear hcon
  go_enter Try.func39, Try.ntmps39
  go_wp2_with fail
  refine (unhide HC).mono ?_
  rintro e w' ⟨rfl, hb⟩
  have HB := hide hb
  clear hb
  go_wp2_with fail
  go_ret
  exact ⟨rfl, unhide HB⟩

/-- three points in a row of their own -/
theorem pts3 {w : World} {b : Nat} (p q r : Pt) (h0 : w.cell? ⟨b, 0, none⟩ = some (.int .i64 p.1)) (h1 : w.cell? ⟨b, 1, none⟩ = some (.int .i64 p.2)) (h2 : w.cell? ⟨b, 2, none⟩ = some (.int .i64 q.1)) (h3 : w.cell? ⟨b, 3, none⟩ = some (.int .i64 q.2)) (h4 : w.cell? ⟨b, 4, none⟩ = some (.int .i64 r.1)) (h5 : w.cell? ⟨b, 5, none⟩ = some (.int .i64 r.2)) : PtsAt w b 0 [p, q, r] := by
  intro j x hj
  match j, hj with
  | 0, hj => simp at hj; subst hj; exact ⟨h0, h1⟩
  | 1, hj => simp at hj; subst hj; exact ⟨h2, h3⟩
  | 2, hj => simp at hj; subst hj; exact ⟨h4, h5⟩
  | j + 3, hj => simp at hj
theorem pts4 {w : World} {b : Nat} (p q r s : Pt) (h0 : w.cell? ⟨b, 0, none⟩ = some (.int .i64 p.1)) (h1 : w.cell? ⟨b, 1, none⟩ = some (.int .i64 p.2)) (h2 : w.cell? ⟨b, 2, none⟩ = some (.int .i64 q.1)) (h3 : w.cell? ⟨b, 3, none⟩ = some (.int .i64 q.2)) (h4 : w.cell? ⟨b, 4, none⟩ = some (.int .i64 r.1)) (h5 : w.cell? ⟨b, 5, none⟩ = some (.int .i64 r.2)) (h6 : w.cell? ⟨b, 6, none⟩ = some (.int .i64 s.1)) (h7 : w.cell? ⟨b, 7, none⟩ = some (.int .i64 s.2)) : PtsAt w b 0 [p, q, r, s] := by
  intro j x hj
  match j, hj with
  | 0, hj => simp at hj; subst hj; exact ⟨h0, h1⟩
  | 1, hj => simp at hj; subst hj; exact ⟨h2, h3⟩
  | 2, hj => simp at hj; subst hj; exact ⟨h4, h5⟩
  | 3, hj => simp at hj; subst hj; exact ⟨h6, h7⟩
  | j + 4, hj => simp at hj

/-- what Turn answers -/
def turnC (a b c : Pt) : Int := if ([a, b, c].all ptOk) = true then 0 else 1
def turnS (a b c : Pt) : Int := if ([a, b, c].all ptOk) = true then sgn (side a b c) else 0

end Go.Proofs.Ytimkinpbimangaa
