/-
  The model's order in which features are done.
-/
import Derived.Test.YtbenhicdhiichaaNmAt
namespace Go.Proofs.Ytbenhicdhiichaa
open Go.ChangeShapes Go.WideShapes Go.ChangeAt Go.RowKit
set_option linter.unusedVariables false
set_option linter.unusedSimpArgs false

theorem wo_next {nm : List (List Nat)} (h : (ord nm).length = nm.length) {m : Nat} (hm : m < nm.length) (hl : (wo nm m).length = m) : ∃ i, ff nm (wo nm m) = some i := by
  cases e : ff nm (wo nm m) with
  | some i => exact ⟨i, rfl⟩
  | none =>
    rw [ord_of e (by omega)] at h
    omega
theorem all_take {l : List Nat} {k y : Nat} (h : l[k]? = some y) (P : Nat → Bool) : (l.take (k + 1)).all P = ((l.take k).all P && P y) := by
  rw [List.take_add_one, h]
  simp
set_option maxRecDepth 100000 in
set_option maxHeartbeats 4000000 in
theorem orderM_any (u : Option Addr) (n cu : Nat) (nm : List (List Nat)) (w : World) (hl : nm.length = n) (hn : n ≤ 4096) (hu : NmAt w u nm) (hlt : ∀ l ∈ nm, l.length ≤ 4096 ∧ ∀ x ∈ l, x < n) (ho : (ord nm).length = nm.length) :
    Calls Try.prog 18 #[.slice u n cu] w fun e w' => ∃ v, e = .returned v ∧ Row w' w.heap.size 3 1 v n (nats (ord nm)) ∧ Below w.heap.size w w' := by
  obtain ⟨i0, hi, hz0, hz1, hz2⟩ := info_parts info3
  have hmk := fun W => make_vals (P := Try.prog) 60 4 1 n (.bool false) rfl Try.underlying60 info4 (by omega) (by omega) W
  have HU := hide hu
  have HL := hide hl
  have HT := hide hlt
  have HO := hide ho
  clear hu hl hlt ho
  rw [← bl_nil] at hmk
  go_enter Try.func18, Try.ntmps18
  go_wp2_with fail
  have HR0 := hide ((row_made w 3 w.heap.size 1 (Nat.le_refl _) _ rfl).below (ba (Below.refl _ _) (.cells (bl n []).toArray 4)))
  have HV0 := hide (vb_new (w.alloc (.cells #[] 3)) 4 (bl n []) _ rfl)
  have HB0 := hide (ba (ba (Below.refl w.heap.size w) (.cells #[] 3)) (.cells (bl n []).toArray 4))
  simp only [World.size_alloc] at HV0
  clear hmk
  go_loopw [3] (fun v W => ∃ m : Nat, m ≤ n ∧ (wo nm m).length = m ∧ Row W w.heap.size 3 1 v m (nats (wo nm m)) ∧ v.ownBlock ≠ some (w.heap.size + 1) ∧ vb W (w.heap.size + 1) 4 (bl n (wo nm m)) ∧ Below w.heap.size w W) (fun v _ => n - (match v with | .slice _ k _ => k | _ => 0))
  case atStart => exact ⟨0, Nat.zero_le _, rfl, unhide HR0, by simp [Value.ownBlock], unhide HV0, unhide HB0⟩
  case round =>
    obtain ⟨m, hm, hml, hrow, hob, hvb, hw⟩ := hrel
    obtain ⟨uv, cap, rfl, hcap⟩ : ∃ (uv : Option Addr) (cap : Nat), _ = Value.slice uv m cap ∧ True := by
      obtain ⟨a, b, e, _⟩ := hrow.form
      exact ⟨a, b, e, trivial⟩
    have HR := hide hrow
    have HV := hide hvb
    have HW := hide hw
    have HOB := hide hob
    have HML := hide hml
    have HU1 := hide ((unhide HU).bel hw)
    clear hrow hvb hw hob hml hcap HR0 HV0 HB0
    by_cases h : m < n
    · have m1 : (m : Int) < (n : Int) := by omega
      have mz : decide ((m : Int) < (n : Int)) = true := decide_eq_true m1
      obtain ⟨q, hq⟩ := wo_next (unhide HO) (by rw [unhide HL]; exact h) (unhide HML)
      obtain ⟨q1, q2, q3, q4⟩ := ff_some hq
      rw [unhide HL] at q1
      have Q2 := hide q2
      have Q3 := hide q3
      have Q4 := hide q4
      have HQ := hide hq
      clear q2 q3 q4 hq
      generalize ho : wo nm m = o at *
      have HO2 := hide ho
      clear ho
      go_wp2_with fail
      rename World => W1
      go_loopw [3, 5] (fun z s W => z = .slice uv m cap ∧ ∃ i : Nat, s = .int .i64 (i : Int) ∧ i ≤ q ∧ W = W1) (fun _ s _ => n - (intOf s).toNat)
      case atStart => exact ⟨rfl, 0, rfl, Nat.zero_le _, rfl⟩
      case round =>
        obtain ⟨rfl, i, rfl, hiq, hww⟩ := hrel
        subst hww
        have j1 : (i : Int) < (n : Int) := by omega
        have j0 : (0 : Int) ≤ (i : Int) := Int.natCast_nonneg _
        have jz : decide ((i : Int) < (n : Int)) = true := decide_eq_true j1
        obtain ⟨l, hx⟩ := get_some (unhide HL) (show i < n by omega)
        obtain ⟨g, go, rfl, x, c, hc, hin⟩ := (unhide HU1).at hx
        have d0 := (unhide HV).cell (bl_at (show i < n by omega))
        have HIN := hide hin
        have HLX := hide (unhide HT l (List.mem_of_getElem? hx))
        have hrd : rdy nm o i = (!o.contains i && l.all fun p => o.contains p) := by
          unfold rdy
          rw [List.getD_eq_getElem?_getD, hx]
          rfl
        have HRD := hide hrd
        have hlen := (unhide HT l (List.mem_of_getElem? hx)).1
        clear hin hx hrd
        generalize hb0 : o.contains i = b0 at *
        have HB0 := hide hb0
        clear hb0
        go_wp2_with fail
        rename World => W1
        go_loopw [6, 7] (fun r k W => ∃ j : Nat, k = .int .i64 (j : Int) ∧ j ≤ l.length ∧ r = .bool (!b0 && (l.take j).all fun p => o.contains p) ∧ W = W1) (fun _ k _ => l.length - (intOf k).toNat)
        case atStart => exact ⟨0, rfl, Nat.zero_le _, by simp, rfl⟩
        case round =>
          obtain ⟨j, rfl, hj, hr, hww⟩ := hrel
          subst hww
          subst hr
          rename World => W1
          by_cases hjl : j < l.length
          · have t1 : (j : Int) < (l.length : Int) := by omega
            have t0 : (0 : Int) ≤ (j : Int) := Int.natCast_nonneg _
            have tz : decide ((j : Int) < (l.length : Int)) = true := decide_eq_true t1
            have hy : l[j]? = some l[j] := List.getElem?_eq_getElem hjl
            obtain ⟨b, qo, rfl, hcell⟩ := unhide HIN (by intro e; rw [e] at hjl; simp at hjl)
            have hyl : l[j] < n := (unhide HLX).2 _ (List.getElem_mem hjl)
            have hat := all_take hy (fun p => o.contains p)
            have HAT := hide hat
            clear hat
            generalize l[j] = y at *
            have k1 := hcell j y hy
            have d1 := (unhide HV).cell (bl_at hyl)
            have y1 : (y : Int) < (n : Int) := by omega
            have y0 : (0 : Int) ≤ (y : Int) := Int.natCast_nonneg _
            clear hcell hy
            generalize hrr : (!b0 && (l.take j).all fun p => o.contains p) = rr at *
            generalize hby : o.contains y = by' at *
            have HBY := hide hby
            have HRR := hide hrr
            clear hby hrr
            cases rr
            · go_wp2_with fail
              go_roundw
              case rel =>
                refine ⟨j + 1, by simp, hjl, ?_, by first | rfl | trivial⟩
                rw [unhide HAT, ← Bool.and_assoc, unhide HRR]
                first | rfl | simp
              case measure => simp only [intOf]; omega
            · go_wp2_with fail
              go_roundw
              case rel =>
                refine ⟨j + 1, by simp, hjl, ?_, by first | rfl | trivial⟩
                rw [unhide HAT, ← Bool.and_assoc, unhide HRR]
                first | rfl | simp
              case measure => simp only [intOf]; omega
          · have t1 : ¬ (j : Int) < (l.length : Int) := by omega
            have tz : decide ((j : Int) < (l.length : Int)) = false := decide_eq_false t1
            have hjl' : l.take j = l := List.take_of_length_le (by omega)
            rw [hjl']
            have hrd := unhide HRD
            generalize hrr : (!b0 && l.all fun p => o.contains p) = rr at *
            by_cases hq2 : i = q
            · have hrt : rr = true := by
                rw [← hrd, hq2]
                have := unhide HQ
                unfold ff at this
                rw [List.find?_range_eq_some] at this
                exact this.1
              subst hrt
              subst hq2
              have fz : ∀ z, W1.frozen? ⟨w.heap.size + 1, z, none⟩ = false := (unhide HV).frozen
              have HV2 := hide ((unhide HV).set i (.bool true))
              rw [bl_set (by omega)] at HV2
              have HR2 := hide ((unhide HR).kept' (w' := W1.setCell ⟨w.heap.size + 1, i, none⟩ (.bool true)) (fun g hg => Below.heap_setCell _ _ _ _ (by intro e; subst e; exact unhide HOB hg)))
              have HW2 := hide (Below.setCell (unhide HW) (p := ⟨w.heap.size + 1, i, none⟩) (by simp) (.bool true))
              have HU2 := hide HU1
              clear hrd hrr hjl'
              go_wp2_with (at_builtin; refine unhide ?_)
              refine hide ?_
              have HSZ := hide (show (W1.setCell ⟨w.heap.size + 1, i, none⟩ (.bool true)).heap.size = W1.heap.size by simp [World.setCell])
              generalize W1.setCell ⟨w.heap.size + 1, i, none⟩ (.bool true) = W2 at *
              refine wpList_append_new _ rfl _ _ 45 rfl w.heap.size 3 i0 _ 1 8 Try.underlying45 hi hz0 hz1 hz2 rfl (by decide) _ _ _ rfl ((unhide HR2).alloc _) _ 1 1 ([(i : Int)].map (Value.int .i64)) rfl rfl (by first | exact news_cells _ _ (unhide HSZ).symm | exact news_cells _ _ rfl) ints_one (by unfold maxLen; omega) (by omega) (Nat.le_trans (unhide HW2).size (by simp)) ?_
              intro v' w1 hown' hgrow _ hnew
              have R := hide (own_more (wr := W2) (news := [(i : Int)]) ((Below.refl w.heap.size W2).alloc (unhide HW2).size _) (Nat.le_trans (unhide HW2).size (by simp)) (unhide HR2) hown' hgrow)
              have hob2 : v'.ownBlock ≠ some (w.heap.size + 1) := by
                intro e
                rcases hnew _ e with h1 | h1
                · exact unhide HOB h1
                · have := (unhide HV2).lt
                  simp at h1
                  omega
              have HV3 := hide ((unhide HV2).bel ((Below.refl _ _).alloc (Nat.le_refl _) (.cells #[.int .i64 (i : Int)] 3)))
              have HV4 : Hid (vb w1 (w.heap.size + 1) 4 (bl n (o ++ [i]))) := hide ((hgrow.block _ (by have := (unhide HV2).lt; simp; omega) (by intro e; exact unhide HOB e.symm)).trans (unhide HV3))
              clear hown' hgrow hnew
              go_wp2_with fail
              obtain ⟨uv', cap', rfl, _⟩ := (unhide R).1.form
              go_roundw
              case rel =>
                refine ⟨m + 1, by omega, ?_, ?_, hob2, ?_, (unhide HW2).trans ((unhide R).2)⟩
                · rw [wo_some (by rw [unhide HO2]; exact unhide HQ), unhide HO2]
                  simp [unhide HML]
                · rw [wo_some (by rw [unhide HO2]; exact unhide HQ), unhide HO2]
                  have := (unhide R).1
                  simpa [nats] using this
                · rw [wo_some (by rw [unhide HO2]; exact unhide HQ), unhide HO2]
                  exact unhide HV4
              case measure => simp only; omega
            · have hrf : rr = false := by rw [← hrd]; exact unhide Q4 i (by omega)
              subst hrf
              clear hrd hrr hjl'
              go_wp2_with fail
              go_roundw
              case rel => exact ⟨rfl, i + 1, by simp, by omega, by first | rfl | trivial⟩
              case measure => simp only [intOf]; omega
    · have m1 : ¬ (m : Int) < (n : Int) := by omega
      have mz : decide ((m : Int) < (n : Int)) = false := decide_eq_false m1
      have en : m = n := by omega
      subst en
      go_wp2_with fail
      go_ret
      refine ⟨_, rfl, ?_, unhide HW⟩
      have h1 := unhide HR
      unfold ord
      rw [unhide HL]
      exact h1
end Go.Proofs.Ytbenhicdhiichaa
