/-
  The program's number of steps from each to a goal.
-/
import Derived.Test.YtkkmikgeppkhiaaStMathF
import Derived.Deep.LoopGhost
namespace Go.Proofs.Ytkkmikgeppkhiaa
open Go.ChangeShapes Go.WideShapes Go.ChangeAt Go.RowKit
set_option linter.unusedVariables false
set_option linter.unusedSimpArgs false

set_option maxHeartbeats 1000000 in
theorem idx_any (x : Option Addr) (l : List Nat) (cx z : Nat) (w : World) (hl : l.length ≤ 4096) (hx : l ≠ [] → ∃ b q, x = some ⟨b, q, none⟩ ∧ ∀ (k y : Nat), l[k]? = some y → w.cell? ⟨b, q + k, none⟩ = some (.int .i64 (y : Int))) :
    Calls Try.prog 114 #[.slice x l.length cx, .int .i64 (z : Int)] w fun e w' => (∃ r : Int, e = .returned (.int .i64 r) ∧ (decide (0 ≤ r)) = l.contains z) ∧ w' = w := by
  have HX := hide hx
  clear hx
  go_enter Try.func114, Try.ntmps114
  go_wp2
  go_loopw [8] (fun s W => ∃ i : Nat, s = .int .i64 (i : Int) ∧ i ≤ l.length ∧ (∀ (j y : Nat), j < i → l[j]? = some y → y ≠ z) ∧ W = w) (fun s _ => l.length - (intOf s).toNat)
  case atStart => exact ⟨0, rfl, Nat.zero_le _, fun j y hj => by omega, rfl⟩
  case round =>
    obtain ⟨i, rfl, hil, hall, hw⟩ := hrel
    subst hw
    have HA := hide hall
    clear hall
    by_cases h : i < l.length
    · have i1 : (i : Int) < (l.length : Int) := by omega
      have i0 : (0 : Int) ≤ (i : Int) := Int.natCast_nonneg _
      have iz : decide ((i : Int) < (l.length : Int)) = true := decide_eq_true i1
      have hy : l[i]? = some l[i] := List.getElem?_eq_getElem h
      obtain ⟨b, q, rfl, hcell⟩ := unhide HX (by intro e; rw [e] at h; simp at h)
      have hm : l[i] ∈ l := List.getElem_mem h
      generalize l[i] = y at *
      have k1 := hcell i y hy
      have HY := hide hy
      have HM := hide hm
      clear hcell hy hm
      by_cases hyz : y = z
      · have hb : ((z : Int) == (y : Int)) = true := by rw [beq_iff_eq]; omega
        have HYZ := hide hyz
        clear hyz
        go_wp2_with fail
        go_ret
        refine ⟨⟨(i : Int), rfl, ?_⟩, by first | rfl | trivial⟩
        rw [decide_eq_true i0]
        symm
        rw [List.contains_eq_mem, ← unhide HYZ]
        exact decide_eq_true (unhide HM)
      · have hb : ((z : Int) == (y : Int)) = false := by rw [beq_eq_false_iff_ne]; omega
        have HYZ := hide hyz
        clear hyz
        go_wp2_with fail
        go_roundw
        case rel =>
          refine ⟨i + 1, by simp, h, ?_, by first | rfl | trivial⟩
          intro j k hj hk
          by_cases e : j = i
          · subst e
            rw [unhide HY] at hk
            cases hk
            exact unhide HYZ
          · exact unhide HA j k (by omega) hk
        case measure => simp only [intOf]; omega
    · have i1 : ¬ (i : Int) < (l.length : Int) := by omega
      have iz : decide ((i : Int) < (l.length : Int)) = false := decide_eq_false i1
      go_wp2_with fail
      go_ret
      refine ⟨⟨-1, rfl, ?_⟩, by first | rfl | trivial⟩
      have hno : z ∉ l := by
       intro hy
       obtain ⟨j, hj, e⟩ := List.getElem_of_mem hy
       exact unhide HA j _ (by omega) (List.getElem?_eq_getElem hj) e
      simp [hno]
theorem cont_any (x : Option Addr) (l : List Nat) (cx z : Nat) (w : World) (hl : l.length ≤ 4096) (hx : l ≠ [] → ∃ b q, x = some ⟨b, q, none⟩ ∧ ∀ (k y : Nat), l[k]? = some y → w.cell? ⟨b, q + k, none⟩ = some (.int .i64 (y : Int))) :
    Calls Try.prog 110 #[.slice x l.length cx, .int .i64 (z : Int)] w fun e w' => e = .returned (.bool (l.contains z)) ∧ w' = w := by
  have H := hide (idx_any x l cx z w hl hx)
  clear hx
  go_enter Try.func110, Try.ntmps110
  go_wp2_with fail
  refine (unhide H).mono ?_
  rintro e W1 ⟨⟨r, rfl, hr⟩, hw1⟩
  subst hw1
  have HR := hide hr
  clear hr
  generalize hz : decide (0 ≤ r) = b at *
  cases b
  · have hz' : ¬ 0 ≤ r := of_decide_eq_false hz
    go_wp2_with fail
    go_ret
    exact ⟨ret_bool (unhide HR), rfl⟩
  · have hz' : 0 ≤ r := of_decide_eq_true hz
    go_wp2_with fail
    go_ret
    exact ⟨ret_bool (unhide HR), rfl⟩
def natV (l : List Nat) : List Value := l.map fun k : Nat => Value.int .i64 (k : Int)
theorem natV_nats (l : List Nat) : natV l = (nats l).map (Value.int .i64) := by simp [natV, nats]
theorem natV_at {l : List Nat} {i x : Nat} (h : l[i]? = some x) : (natV l)[i]? = some (.int .i64 (x : Int)) := by simp [natV, h]
theorem natV_set (l : List Nat) (i x : Nat) : (natV l).set i (.int .i64 (x : Int)) = natV (l.set i x) := by simp [natV, List.map_set]
/-- how the steps are told -/
def StAns (s : Nat → Option Nat) (n goal : Nat) (st : List Nat) : Prop := st.length = n ∧ (∀ m L, st[m]? = some L → 0 < L → First s m goal L) ∧ ∀ m, st[m]? = some 0 → ∀ L, ¬ First s m goal L
set_option maxRecDepth 100000 in
set_option maxHeartbeats 4000000 in
theorem stepsP_any (u : Option Addr) (n cu goal : Nat) (nm : List (List Nat)) (w : World) (hl : nm.length = n) (hn : n ≤ 4000) (hg : goal < n) (hu : NmAt w u nm) (ho : Oneful nm) :
    Calls Try.prog 97 #[.slice u n cu, .int .i64 (goal : Int)] w fun e w' => (∃ st, e = .returned (.slice (some ⟨w.heap.size, 0, none⟩) n n) ∧ vb w' w.heap.size 3 (natV st) ∧ StAns (sc nm) n goal st) ∧ Below w.heap.size w w' := by
  obtain ⟨iI, hi, hz0, hz1, hz2⟩ := info_parts info3
  have hmk := fun W => make_vals (P := Try.prog) 94 3 8 n (.int .i64 0) rfl Try.underlying94 info3 (by omega) (by omega) W
  have hrep : List.replicate n (Value.int .i64 0) = natV (List.replicate n 0) := by simp [natV]
  rw [hrep] at hmk
  clear hrep
  have HU := hide hu
  have HL := hide hl
  have HO := hide ho
  clear hu hl ho
  go_enter Try.func97, Try.ntmps97
  go_wp2_with fail
  have HV0 := hide ((vb_new w 3 (natV (List.replicate n 0)) _ rfl).bel (ba (Below.refl _ _) (.cells #[.int .i64 (goal : Int)] 3)))
  have HB0 := hide (ba (ba (Below.refl w.heap.size w) (.cells (natV (List.replicate n 0)).toArray 3)) (.cells #[.int .i64 (goal : Int)] 3))
  have HR0 := hide ((vb_new (w.alloc (.cells (natV (List.replicate n 0)).toArray 3)) 3 (natV [goal]) _ rfl).owns (B := w.heap.size) (n := 1) (by simp) rfl (by decide))
  simp only [World.size_alloc] at HR0
  clear hmk
  go_loopg [6, 7] (n + 2) (fun k v s W => ∃ (a : Nat) (st rch : List Nat), s = .int .i64 (a : Int) ∧ k = n + 2 - a ∧ StI (sc nm) n goal st rch a ∧ (a = 0 → nz st = 0) ∧ W.ownsRow w.heap.size 3 1 v rch.length (natV rch) ∧ v.ownBlock ≠ some w.heap.size ∧ vb W w.heap.size 3 (natV st) ∧ Below w.heap.size w W)
  case atStart => exact ⟨0, List.replicate n 0, [goal], rfl, rfl, StI.start hg, fun _ => by simp [nz, List.countP_replicate], unhide HR0, by simp [Value.ownBlock], unhide HV0, unhide HB0⟩
  case round =>
    obtain ⟨a, st, rch, rfl, hgk, hsti, hz, hown, hob, hvb, hw⟩ := hrel
    rename World => W1
    obtain ⟨uv, cap, rfl, _, _, hfv⟩ := own_form hown
    have HST := hide hsti
    have HZ := hide hz
    have HOW := hide hown
    have HOB := hide hob
    have HV := hide hvb
    have HW := hide hw
    have HGK := hide hgk
    have hral := hsti.al
    have hrle := hsti.le
    clear hz hown hob hvb hw hgk HV0 HB0 HR0
    by_cases h : a < rch.length
    · have a1 : (a : Int) < (rch.length : Int) := by omega
      have a0 : (0 : Int) ≤ (a : Int) := Int.natCast_nonneg _
      have az : decide ((a : Int) < (rch.length : Int)) = true := decide_eq_true a1
      have hra : rch[a]? = some rch[a] := List.getElem?_eq_getElem h
      have hrn := hsti.lt _ (List.getElem_mem h)
      obtain ⟨gr, rfl, hgr1, hgr2, hcr⟩ := hfv (by omega)
      generalize rch[a] = r at *
      have k1 := hcr a _ (natV_at hra)
      obtain ⟨d, hd⟩ := get_some hsti.len hrn
      have k2 := (unhide HV).cell (natV_at hd)
      have HKEY := hide (hsti.key hra (unhide HZ) hd)
      have HRA := hide hra
      have r1 : (r : Int) < (n : Int) := by omega
      have r0 : (0 : Int) ≤ (r : Int) := Int.natCast_nonneg _
      have hdn : d ≤ n := by
        rcases Nat.eq_zero_or_pos d with g | g
        · omega
        · have := (hsti.sound r d hd g).le (unhide HO)
          rw [unhide HL] at this
          exact this
      clear hsti hcr hfv hra hd
      have hdw : IntKind.i64.wrap ((d : Int) + 1) = ((d + 1 : Nat) : Int) := by rw [wrap_i (by omega) (by omega)]; omega
      go_wp2_with fail
      clear k1 k2 hdw
      obtain ⟨fu, hfu⟩ : ∃ fu : Nat, fu = d + 1 := ⟨d + 1, rfl⟩
      rw [show (d : Int) + 1 = (fu : Int) by omega]
      rw [← hfu] at HKEY
      have hfp : 0 < fu := by omega
      clear hfu
      go_loopw [6, 32] (fun v s W => ∃ (m : Nat) (st rch : List Nat), s = .int .i64 (m : Int) ∧ m ≤ n ∧ StI (sc nm) n goal st rch a ∧ rch[a]? = some r ∧ (∀ k, k < n → sc nm k = some r → st[k]? = some 0 → First (sc nm) k goal fu) ∧ (∀ k, k < m → sc nm k = some r → pos st k) ∧ W.ownsRow w.heap.size 3 1 v rch.length (natV rch) ∧ v.ownBlock ≠ some w.heap.size ∧ vb W w.heap.size 3 (natV st) ∧ Below w.heap.size w W) (fun _ s _ => n - (intOf s).toNat)
      case atStart => exact ⟨0, st, rch, rfl, Nat.zero_le _, unhide HST, unhide HRA, unhide HKEY, fun k hk => by omega, unhide HOW, unhide HOB, unhide HV, unhide HW⟩
      case round =>
        clear HST HZ HOW HOB HV HW HKEY HRA hral hrle h a1 az hgr1 hgr2
        obtain ⟨m, st, rch, rfl, hmn, hsti, hra, hkey, hpos, hown, hob, hvb, hw⟩ := hrel
        rename World => W2
        obtain ⟨uv, cv, rfl, _, _, hfv⟩ := own_form hown
        have hla : a < rch.length := (List.getElem?_eq_some_iff.1 hra).1
        have hrle := hsti.le
        have HST := hide hsti
        have HRA := hide hra
        have HKEY := hide hkey
        have HPOS := hide hpos
        have HOW := hide hown
        have HOB := hide hob
        have HV := hide hvb
        have HW := hide hw
        clear hkey hpos hown hob hvb hw
        by_cases h : m < n
        · have m1 : (m : Int) < (n : Int) := by omega
          have m0 : (0 : Int) ≤ (m : Int) := Int.natCast_nonneg _
          have mz : decide ((m : Int) < (n : Int)) = true := decide_eq_true m1
          obtain ⟨gv, rfl, hgv1, hgv2, hcr⟩ := hfv (by omega)
          have k1 := hcr a _ (natV_at hra)
          have a1 : (a : Int) < (rch.length : Int) := by omega
          obtain ⟨l, hx⟩ := get_some (unhide HL) h
          obtain ⟨gn, on, rfl, xv, xc, hcx, hin⟩ := ((unhide HU).bel (unhide HW)).at hx
          have hll : l.length ≤ 1 := (unhide HO).one l (List.mem_of_getElem? hx)
          have hsc : l.contains r = true ↔ sc nm m = some r := by
            have hsx : sc nm m = l.head? := by unfold sc; rw [hx]; rfl
            rw [hsx]
            match l, hll with
            | [], _ => simp
            | [b], _ => simp; exact eq_comm
          have HSC := hide hsc
          have HC := hide (cont_any xv l xc r W2 (by omega) hin)
          obtain ⟨x, hsx⟩ := get_some hsti.len h
          have k2 := (unhide HV).cell (natV_at hsx)
          have HX := hide hsx
          clear hsti hra hcr hfv hx hin hll hsc hsx
          by_cases hx0 : x = 0
          · have hxb : ((x : Int) == 0) = true := by rw [beq_iff_eq]; omega
            have HX0 := hide hx0
            clear hx0
            cases hlc : l.contains r
            · rw [hlc] at HC HSC
              clear hlc
              go_wp2_with fail
              refine (unhide HC).mono ?_
              rintro e W3 ⟨rfl, hw3⟩
              subst hw3
              go_wp2_with fail
              go_roundw
              case rel =>
                refine ⟨m + 1, st, rch, by simp, h, unhide HST, unhide HRA, unhide HKEY, ?_, unhide HOW, unhide HOB, unhide HV, unhide HW⟩
                intro k hk hs
                by_cases e : k = m
                · subst e
                  exact absurd ((unhide HSC).2 hs) (by simp)
                · exact unhide HPOS k (by omega) hs
              case measure => simp only [intOf]; omega
            · rw [hlc] at HC HSC
              clear hlc
              have hsm : sc nm m = some r := (unhide HSC).1 rfl
              have hx00 := unhide HX
              rw [unhide HX0] at hx00
              have HF := hide (unhide HKEY m h hsm hx00)
              have HX00 := hide hx00
              clear hsm hx00
              have fz : ∀ z, W2.frozen? ⟨w.heap.size, z, none⟩ = false := (unhide HV).frozen
              have HV2 := hide ((unhide HV).set m (.int .i64 (fu : Int)))
              rw [natV_set] at HV2
              have HR2 := hide (own_kept (unhide HOW) (w' := W2.setCell ⟨w.heap.size, m, none⟩ (.int .i64 (fu : Int))) (fun g hg => by have h3 : g ≠ w.heap.size := (by intro e; subst e; exact unhide HOB hg); exact Below.heap_setCell _ _ _ _ h3))
              have HW2 := hide (Below.setCell (unhide HW) (p := ⟨w.heap.size, m, none⟩) (Nat.le_refl _) (.int .i64 (fu : Int)))
              have HSZ := hide (show (W2.setCell ⟨w.heap.size, m, none⟩ (.int .i64 (fu : Int))).heap.size = W2.heap.size by simp [World.setCell])
              go_wp2_with fail
              refine (unhide HC).mono ?_
              rintro e W3 ⟨rfl, hw3⟩
              subst hw3
              rename World => W2
              go_wp2_with (at_builtin; refine unhide ?_)
              refine hide ?_
              generalize W2.setCell ⟨w.heap.size, m, none⟩ (.int .i64 (fu : Int)) = W4 at *
              clear fz k1 k2
              refine wpList_append_new _ rfl _ _ 94 rfl w.heap.size 3 iI _ 1 8 Try.underlying94 hi hz0 hz1 hz2 rfl (by decide) _ rch.length (natV rch) rfl ((unhide HR2).alloc _) _ 1 1 (natV [m]) rfl rfl (by first | exact news_cells _ _ (unhide HSZ).symm | exact news_cells _ _ rfl) (by intro u hu; simp only [natV, List.map_cons, List.map_nil, List.mem_singleton] at hu; subst hu; rfl) (by unfold maxLen; omega) (by omega) (Nat.le_trans (unhide HW2).size (by simp)) ?_
              intro v' w1 hown' hgrow _ hnew
              have hbw : Below w.heap.size w w1 := ((unhide HW2).alloc (unhide HW2).size _).grown hgrow (Nat.le_trans (unhide HW2).size (by simp)) (fun g hg => (own_ge (unhide HR2) g hg).1)
              have hob2 : v'.ownBlock ≠ some w.heap.size := by
                intro e
                rcases hnew _ e with h1 | h1
                · exact unhide HOB h1
                · have := (unhide HV2).lt
                  simp at h1
                  omega
              have HV3 := hide ((unhide HV2).bel ((Below.refl _ _).alloc (Nat.le_refl _) (.cells (natV [m]).toArray 3)))
              have HV4 : Hid (vb w1 w.heap.size 3 (natV (st.set m fu))) := hide ((hgrow.block _ (by have := (unhide HV2).lt; simp; omega) (by intro e; exact unhide HOB e.symm)).trans (unhide HV3))
              have hown2 : w1.ownsRow w.heap.size 3 1 v' (rch ++ [m]).length (natV (rch ++ [m])) := by
                rw [List.length_append]
                have e : natV (rch ++ [m]) = natV rch ++ natV [m] := by simp [natV]
                rw [e]
                exact hown'
              have HO2 := hide hown2
              have HBW := hide hbw
              clear hown' hgrow hnew hown2 hbw
              go_wp2_with fail
              go_roundw
              case rel =>
                refine ⟨m + 1, st.set m fu, rch ++ [m], by simp, h, (unhide HST).put h (unhide HX00) hfp (unhide HF), ?_, ?_, ?_, unhide HO2, hob2, unhide HV4, unhide HBW⟩
                · rw [List.getElem?_append_left hla]
                  exact unhide HRA
                · intro k hk hs hz
                  apply unhide HKEY k hk hs
                  rw [List.getElem?_set] at hz
                  split at hz
                  · rename_i e
                    split at hz
                    · cases hz; omega
                    · cases hz
                  · exact hz
                · intro k hk hs
                  by_cases e : k = m
                  · subst e
                    exact pos_here (by rw [(unhide HST).len]; exact h) hfp
                  · exact pos_set (unhide HPOS k (by omega) hs) hfp
              case measure => simp only [intOf]; omega
          · have hxb : ((x : Int) == 0) = false := by rw [beq_eq_false_iff_ne]; omega
            have HX0 := hide hx0
            clear hx0
            go_wp2_with fail
            go_roundw
            case rel =>
              refine ⟨m + 1, st, rch, by simp, h, unhide HST, unhide HRA, unhide HKEY, ?_, unhide HOW, unhide HOB, unhide HV, unhide HW⟩
              intro k hk hs
              by_cases e : k = m
              · subst e
                exact ⟨x, unhide HX, by have := unhide HX0; omega⟩
              · exact unhide HPOS k (by omega) hs
            case measure => simp only [intOf]; omega
        · have m1 : ¬ (m : Int) < (n : Int) := by omega
          have mz : decide ((m : Int) < (n : Int)) = false := decide_eq_false m1
          clear hsti hfv hra
          go_wp2_with fail
          go_roundg (n + 2 - (a + 1))
          case measure => have := unhide HGK; omega
          case rel =>
            refine ⟨a + 1, st, rch, by simp, rfl, (unhide HST).next (unhide HRA) (fun k hk hs => unhide HPOS k (by omega) hs), fun e => by omega, unhide HOW, unhide HOB, unhide HV, unhide HW⟩
    · have a1 : ¬ (a : Int) < (rch.length : Int) := by omega
      have az : decide ((a : Int) < (rch.length : Int)) = false := decide_eq_false a1
      have har : rch.length = a := by omega
      subst har
      clear hsti hfv
      go_wp2_with fail
      go_ret
      first
      | refine ⟨⟨st, rfl, unhide HV, (unhide HST).len, (unhide HST).sound, ?_⟩, unhide HW⟩
      | refine ⟨⟨rfl, st, unhide HV, (unhide HST).len, (unhide HST).sound, ?_⟩, unhide HW⟩
      intro m hm L f
      obtain ⟨M, h1, h2⟩ := (unhide HST).all (fun m p hp => by have := (sc_lt (unhide HO) hp).1; rw [unhide HL] at this; exact this) L m f
      rw [hm] at h1
      cases h1
      omega
end Go.Proofs.Ytkkmikgeppkhiaa
