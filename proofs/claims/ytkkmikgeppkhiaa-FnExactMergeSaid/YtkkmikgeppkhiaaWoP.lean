/-
  The program's order in which features are done, whole.
-/
import Derived.Test.YtkkmikgeppkhiaaFfP
import Derived.Deep.LoopGhost
namespace Go.Proofs.Ytkkmikgeppkhiaa
open Go.ChangeShapes Go.WideShapes Go.ChangeAt Go.RowKit
set_option linter.unusedVariables false
set_option linter.unusedSimpArgs false

set_option maxRecDepth 100000 in
set_option maxHeartbeats 4000000 in
theorem workP_any (u : Option Addr) (n cu : Nat) (nm : List (List Nat)) (w : World) (hl : nm.length = n) (hn : n ≤ 4096) (hu : NmAt w u nm) (hlt : ∀ l ∈ nm, l.length ≤ 4096 ∧ ∀ x ∈ l, x < n) :
    Calls Try.prog 77 #[.slice u n cu] w fun e w' => ∃ v, e = .returned v ∧ Row w' w.heap.size 3 1 v (ord nm).length (nats (ord nm)) ∧ Below w.heap.size w w' := by
  obtain ⟨i0, hi, hz0, hz1, hz2⟩ := info_parts info3
  have hmk := fun W => make_vals (P := Try.prog) 114 4 1 n (.bool false) rfl Try.underlying114 info4 (by omega) (by omega) W
  have HU := hide hu
  have HL := hide hl
  have HT := hide hlt
  clear hu hl hlt
  rw [← bl_nil] at hmk
  go_enter Try.func77, Try.ntmps77
  go_wp2_with fail
  have HV0 := hide (vb_new w 4 (bl n []) _ rfl)
  have HB0 := hide (ba (Below.refl w.heap.size w) (.cells (bl n []).toArray 4))
  clear hmk
  go_loopg [3] (n + 1) (fun k v W => ∃ m : Nat, m ≤ n ∧ k = n + 1 - m ∧ (wo nm m).length = m ∧ Row W w.heap.size 3 1 v m (nats (wo nm m)) ∧ v.ownBlock ≠ some w.heap.size ∧ vb W w.heap.size 4 (bl n (wo nm m)) ∧ Below w.heap.size w W)
  case atStart => exact ⟨0, Nat.zero_le _, rfl, rfl, own_nil _ _ _ _, by simp [Value.ownBlock], unhide HV0, unhide HB0⟩
  case round =>
    obtain ⟨m, hm, hgk, hml, hrow, hob, hvb, hw⟩ := hrel
    rename World => W1
    obtain ⟨uv, cap, rfl, _⟩ := hrow.form
    have HR := hide hrow
    have HV := hide hvb
    have HW := hide hw
    have HOB := hide hob
    have HML := hide hml
    have HGK := hide hgk
    have HF := hide (ffP_any u n cu w.heap.size nm (wo nm m) W1 (unhide HL) hn ((unhide HU).bel hw) (unhide HT) hvb)
    clear hrow hvb hw hob hml hgk HV0 HB0
    cases hq : ff nm (wo nm m) with
    | none =>
      have hfi : ffI nm (wo nm m) = -1 := by unfold ffI; rw [hq]
      rw [hfi] at HF
      clear hfi
      have hor := ord_of hq (by rw [unhide HL]; exact hm)
      have HOR := hide hor
      clear hor hq
      go_wp2_with fail
      refine (unhide HF).mono ?_
      rintro e W2 ⟨rfl, hb⟩
      have HB2 := hide (bc (unhide HW) hb)
      have HR2 := hide ((unhide HR).below hb)
      clear hb
      go_wp2_with fail
      go_ret
      refine ⟨_, rfl, ?_, unhide HB2⟩
      rw [unhide HOR, unhide HML]
      exact unhide HR2
    | some q =>
      have hfi : ffI nm (wo nm m) = (q : Int) := by unfold ffI; rw [hq]
      rw [hfi] at HF
      clear hfi
      have hqn : q < n := by have := (ff_some hq).1; rw [unhide HL] at this; exact this
      have hmn : m < n := by have := (wo_count nm m (by rw [hq]; simp)).2; rw [unhide HL] at this; exact this
      have hws := wo_some hq
      have HWS := hide hws
      clear hws hq
      generalize wo nm m = o at *
      have q1 : (q : Int) < (n : Int) := by omega
      have q0 : (0 : Int) ≤ (q : Int) := Int.natCast_nonneg _
      have qn : ¬ (q : Int) < 0 := by omega
      have qz : decide ((q : Int) < 0) = false := decide_eq_false qn
      go_wp2_with fail
      refine (unhide HF).mono ?_
      rintro e W2 ⟨rfl, hb⟩
      have hvb := (unhide HV).bel hb
      have fz : ∀ z, W2.frozen? ⟨w.heap.size, z, none⟩ = false := hvb.frozen
      have HV2 := hide (hvb.set q (.bool true))
      rw [bl_set hqn] at HV2
      have hrow := (unhide HR).below hb
      have HR2 := hide (hrow.kept' (w' := W2.setCell ⟨w.heap.size, q, none⟩ (.bool true)) (fun g hg => by have h3 : g ≠ w.heap.size := (by intro e; subst e; exact unhide HOB hg); exact Below.heap_setCell _ _ _ _ h3))
      have HW2 := hide (Below.setCell (bc (unhide HW) hb) (p := ⟨w.heap.size, q, none⟩) (Nat.le_refl _) (.bool true))
      have HSZ := hide (show (W2.setCell ⟨w.heap.size, q, none⟩ (.bool true)).heap.size = W2.heap.size by simp [World.setCell])
      have dq := hvb.cell (bl_at (o := o) hqn)
      clear hb hrow hvb
      go_wp2_with (at_builtin; refine unhide ?_)
      refine hide ?_
      generalize W2.setCell ⟨w.heap.size, q, none⟩ (.bool true) = W3 at *
      clear dq fz
      refine wpList_append_new _ rfl _ _ 94 rfl w.heap.size 3 i0 _ 1 8 Try.underlying94 hi hz0 hz1 hz2 rfl (by decide) _ _ _ rfl ((unhide HR2).alloc _) _ 1 1 ([(q : Int)].map (Value.int .i64)) rfl rfl (by first | exact news_cells _ _ (unhide HSZ).symm | exact news_cells _ _ rfl) ints_one (by unfold maxLen; omega) (by omega) (Nat.le_trans (unhide HW2).size (by simp)) ?_
      intro v' w1 hown' hgrow _ hnew
      have R := hide (own_more (wr := W3) (news := [(q : Int)]) ((Below.refl w.heap.size W3).alloc (unhide HW2).size _) (Nat.le_trans (unhide HW2).size (by simp)) (unhide HR2) hown' hgrow)
      have hob2 : v'.ownBlock ≠ some w.heap.size := by
        intro e
        rcases hnew _ e with h1 | h1
        · exact unhide HOB h1
        · have := (unhide HV2).lt
          simp at h1
          omega
      have HV3 := hide ((unhide HV2).bel ((Below.refl _ _).alloc (Nat.le_refl _) (.cells #[.int .i64 (q : Int)] 3)))
      have HV4 : Hid (vb w1 w.heap.size 4 (bl n (o ++ [q]))) := hide ((hgrow.block _ (by have := (unhide HV2).lt; simp; omega) (by intro e; exact unhide HOB e.symm)).trans (unhide HV3))
      clear hown' hgrow hnew
      go_wp2_with fail
      go_roundg (n + 1 - (m + 1))
      case measure => have := unhide HGK; omega
      case rel =>
        refine ⟨m + 1, by omega, rfl, ?_, ?_, hob2, ?_, (unhide HW2).trans ((unhide R).2)⟩
        · rw [unhide HWS]
          simp [unhide HML]
        · rw [unhide HWS]
          have := (unhide R).1
          simpa [nats] using this
        · rw [unhide HWS]
          exact unhide HV4
end Go.Proofs.Ytkkmikgeppkhiaa
