/-
  The program's order in which features are done.
-/
import Derived.Test.YtkkmikgeppkhiaaNmAt
namespace Go.Proofs.Ytkkmikgeppkhiaa
open Go.ChangeShapes Go.WideShapes Go.ChangeAt Go.RowKit
set_option linter.unusedVariables false
set_option linter.unusedSimpArgs false

theorem clo_any (y c g n : Nat) (o : List Nat) (w : World) (hy : y < n) (hc : w.cell? ⟨c, 0, none⟩ = some (.slice (some ⟨g, 0, none⟩) n n)) (hv : vb w g 4 (bl n o)) :
    Calls Try.prog 109 #[.int .i64 (y : Int), .pointer (some ⟨c, 0, none⟩)] w fun e w' => e = .returned (.bool (!o.contains y)) ∧ w' = w := by
  have d := hv.cell (bl_at hy)
  have y1 : (y : Int) < (n : Int) := by omega
  have y0 : (0 : Int) ≤ (y : Int) := Int.natCast_nonneg _
  clear hv hy
  generalize o.contains y = b at *
  go_enter Try.func109, Try.ntmps109
  go_wp2
  go_ret
  exact ⟨rfl, rfl⟩
set_option maxHeartbeats 1000000 in
theorem idxf_any (x : Option Addr) (l : List Nat) (cx c g n : Nat) (o : List Nat) (w : World) (hl : l.length ≤ 4096) (hx : l ≠ [] → ∃ b q, x = some ⟨b, q, none⟩ ∧ ∀ (k y : Nat), l[k]? = some y → w.cell? ⟨b, q + k, none⟩ = some (.int .i64 (y : Int))) (hlt : ∀ y ∈ l, y < n)
    (hc : w.cell? ⟨c, 0, none⟩ = some (.slice (some ⟨g, 0, none⟩) n n)) (hv : vb w g 4 (bl n o)) :
    Calls Try.prog 113 #[.slice x l.length cx, .func (.func 109) #[] #[.pointer (some ⟨c, 0, none⟩)]] w fun e w' => (∃ r : Int, e = .returned (.int .i64 r) ∧ (decide (0 ≤ r)) = (l.any fun y => !o.contains y)) ∧ w' = w := by
  have HX := hide hx
  have HT := hide hlt
  have HCL := hide (fun y (hy : y < n) => clo_any y c g n o w hy hc hv)
  clear hx hlt hc hv
  go_enter Try.func113, Try.ntmps113
  go_wp2
  go_loopw [8] (fun s W => ∃ i : Nat, s = .int .i64 (i : Int) ∧ i ≤ l.length ∧ (∀ (j y : Nat), j < i → l[j]? = some y → o.contains y = true) ∧ W = w) (fun s _ => l.length - (intOf s).toNat)
  case atStart => exact ⟨0, rfl, Nat.zero_le _, fun j y hj => by omega, rfl⟩
  case round =>
    obtain ⟨i, rfl, hil, hall, hw⟩ := hrel
    subst hw
    have HA := hide hall
    clear hall
    by_cases h : i < l.length
    · have i1 : (i : Int) < (l.length : Int) := by omega
      have i0 : (0 : Int) ≤ (i : Int) := Int.natCast_nonneg _
      have iz : decide ((i : Int) < (l.length : Int)) = true := decide_eq_true i1
      have hy : l[i]? = some l[i] := List.getElem?_eq_getElem h
      obtain ⟨b, q, rfl, hcell⟩ := unhide HX (by intro e; rw [e] at h; simp at h)
      have hyn := unhide HT _ (List.getElem_mem h)
      have hm : l[i] ∈ l := List.getElem_mem h
      generalize l[i] = y at *
      have k1 := hcell i y hy
      have HY := hide hy
      have HM := hide hm
      have HC := hide (unhide HCL y hyn)
      clear hcell hy hm
      generalize hby : o.contains y = b2 at *
      have HBY := hide hby
      clear hby
      go_wp2_with fail
      refine (unhide HC).mono ?_
      rintro e W1 ⟨rfl, hw1⟩
      subst hw1
      cases b2
      · go_wp2_with fail
        go_ret
        refine ⟨⟨(i : Int), rfl, ?_⟩, by first | rfl | trivial⟩
        rw [decide_eq_true i0]
        symm
        rw [List.any_eq_true]
        exact ⟨y, unhide HM, by rw [unhide HBY]; rfl⟩
      · go_wp2_with fail
        go_roundw
        case rel =>
          refine ⟨i + 1, by simp, h, ?_, by first | rfl | trivial⟩
          intro j z hj hz
          by_cases e : j = i
          · subst e
            rw [unhide HY] at hz
            cases hz
            exact unhide HBY
          · exact unhide HA j z (by omega) hz
        case measure => simp only [intOf]; omega
    · have i1 : ¬ (i : Int) < (l.length : Int) := by omega
      have iz : decide ((i : Int) < (l.length : Int)) = false := decide_eq_false i1
      go_wp2_with fail
      go_ret
      refine ⟨⟨-1, rfl, ?_⟩, by first | rfl | trivial⟩
      rw [decide_eq_false (by omega)]
      symm
      rw [List.any_eq_false]
      intro y hy
      obtain ⟨j, hj, rfl⟩ := List.getElem_of_mem hy
      have hc2 := unhide HA j _ (by omega) (List.getElem?_eq_getElem hj)
      first
      | (rw [hc2]; simp; done)
      | (simp only [List.contains_eq_mem] at hc2; rw [hc2]; simp)
theorem contf_any (x : Option Addr) (l : List Nat) (cx c g n : Nat) (o : List Nat) (w : World) (hl : l.length ≤ 4096) (hx : l ≠ [] → ∃ b q, x = some ⟨b, q, none⟩ ∧ ∀ (k y : Nat), l[k]? = some y → w.cell? ⟨b, q + k, none⟩ = some (.int .i64 (y : Int))) (hlt : ∀ y ∈ l, y < n)
    (hc : w.cell? ⟨c, 0, none⟩ = some (.slice (some ⟨g, 0, none⟩) n n)) (hv : vb w g 4 (bl n o)) :
    Calls Try.prog 108 #[.slice x l.length cx, .func (.func 109) #[] #[.pointer (some ⟨c, 0, none⟩)]] w fun e w' => e = .returned (.bool (l.any fun y => !o.contains y)) ∧ w' = w := by
  have H := hide (idxf_any x l cx c g n o w hl hx hlt hc hv)
  clear hx hlt hc hv
  go_enter Try.func108, Try.ntmps108
  go_wp2_with fail
  refine (unhide H).mono ?_
  rintro e W1 ⟨⟨r, rfl, hr⟩, hw1⟩
  subst hw1
  have HR := hide hr
  clear hr
  generalize hz : decide (0 ≤ r) = z at *
  cases z
  · have hz' : ¬ 0 ≤ r := of_decide_eq_false hz
    go_wp2_with fail
    go_ret
    exact ⟨ret_bool (unhide HR), rfl⟩
  · have hz' : 0 ≤ r := of_decide_eq_true hz
    go_wp2_with fail
    go_ret
    exact ⟨ret_bool (unhide HR), rfl⟩
def ffI (nm : List (List Nat)) (o : List Nat) : Int := match ff nm o with | some i => (i : Int) | none => -1
theorem all_any (l : List Nat) (o : List Nat) : (l.all fun p => o.contains p) = !(l.any fun y => !o.contains y) := by
  induction l with
  | nil => rfl
  | cons a l ih => simp only [List.all_cons, List.any_cons, ih]; cases o.contains a <;> simp
set_option maxRecDepth 100000 in
set_option maxHeartbeats 2000000 in
theorem ffP_any (u : Option Addr) (n cu g : Nat) (nm : List (List Nat)) (o : List Nat) (w : World) (hl : nm.length = n) (hn : n ≤ 4096) (hu : NmAt w u nm) (hlt : ∀ l ∈ nm, l.length ≤ 4096 ∧ ∀ x ∈ l, x < n) (hv : vb w g 4 (bl n o)) :
    Calls Try.prog 96 #[.slice u n cu, .slice (some ⟨g, 0, none⟩) n n] w fun e w' => e = .returned (.int .i64 (ffI nm o)) ∧ Below w.heap.size w w' := by
  have HU := hide (hu.bel (ba (Below.refl w.heap.size w) (.cells #[.slice (some ⟨g, 0, none⟩) n n] 114)))
  have HL := hide hl
  have HT := hide hlt
  have HV := hide (hv.bel (ba (Below.refl w.heap.size w) (.cells #[.slice (some ⟨g, 0, none⟩) n n] 114)))
  have HB := hide (ba (Below.refl w.heap.size w) (.cells #[.slice (some ⟨g, 0, none⟩) n n] 114))
  have hc : (w.alloc (.cells #[.slice (some ⟨g, 0, none⟩) n n] 114)).cell? ⟨w.heap.size, 0, none⟩ = some (.slice (some ⟨g, 0, none⟩) n n) := by simp [go_sem]
  clear hu hl hlt hv
  go_enter Try.func96, Try.ntmps96
  go_wp2_with fail
  generalize w.alloc (.cells #[.slice (some ⟨g, 0, none⟩) n n] 114) = W1 at *
  go_loopw [10] (fun s W => ∃ i : Nat, s = .int .i64 (i : Int) ∧ i ≤ n ∧ (∀ j, j < i → rdy nm o j = false) ∧ W = W1) (fun s _ => n - (intOf s).toNat)
  case atStart => exact ⟨0, rfl, Nat.zero_le _, fun j hj => by omega, rfl⟩
  case round =>
    obtain ⟨i, rfl, hil, hall, hw⟩ := hrel
    subst hw
    rename World => W1
    have HA := hide hall
    clear hall
    by_cases h : i < n
    · have i1 : (i : Int) < (n : Int) := by omega
      have i0 : (0 : Int) ≤ (i : Int) := Int.natCast_nonneg _
      have iz : decide ((i : Int) < (n : Int)) = true := decide_eq_true i1
      obtain ⟨l, hx⟩ := get_some (unhide HL) h
      obtain ⟨gn, on, rfl, xv, xc, hcx, hin⟩ := (unhide HU).at hx
      have d0 := (unhide HV).cell (bl_at h)
      have hlt := unhide HT l (List.mem_of_getElem? hx)
      have HC := hide (contf_any xv l xc w.heap.size g n o W1 hlt.1 hin hlt.2 hc (unhide HV))
      have hrd : rdy nm o i = (!o.contains i && !(l.any fun y => !o.contains y)) := by
        unfold rdy
        rw [List.getD_eq_getElem?_getD, hx, Option.getD_some, all_any]
      have HRD := hide hrd
      clear hin hx hrd hlt
      generalize o.contains i = b0 at *
      generalize (l.any fun y => !o.contains y) = b1 at *
      go_wp2_with fail
      refine (unhide HC).mono ?_
      rintro e W2 ⟨rfl, hw1⟩
      subst hw1
      cases b0
      · cases b1
        · go_wp2_with fail
          go_ret
          refine ⟨ret_int ?_, unhide HB⟩
          unfold ffI
          rw [ff_of (by rw [unhide HL]; exact h) (unhide HRD) (unhide HA)]
        · go_wp2_with fail
          go_roundw
          case rel =>
            refine ⟨i + 1, by simp, h, ?_, by first | rfl | trivial⟩
            intro j hj
            by_cases e : j = i
            · rw [e]; exact unhide HRD
            · exact unhide HA j (by omega)
          case measure => simp only [intOf]; omega
      · go_wp2_with fail
        go_roundw
        case rel =>
          refine ⟨i + 1, by simp, h, ?_, by first | rfl | trivial⟩
          intro j hj
          by_cases e : j = i
          · rw [e]; exact unhide HRD
          · exact unhide HA j (by omega)
        case measure => simp only [intOf]; omega
    · have i1 : ¬ (i : Int) < (n : Int) := by omega
      have iz : decide ((i : Int) < (n : Int)) = false := decide_eq_false i1
      go_wp2_with fail
      go_ret
      refine ⟨ret_int ?_, unhide HB⟩
      unfold ffI
      rw [ff_no (fun j hj => unhide HA j (by rw [unhide HL] at hj; omega))]
end Go.Proofs.Ytkkmikgeppkhiaa
