/-
  What the program leaves out.
-/
import Derived.Test.YtbenhicdhiichaaLoMath
import Derived.Test.YtbenhicdhiichaaRhP
import Derived.Test.YtbenhicdhiichaaStRows
namespace Go.Proofs.Ytbenhicdhiichaa
open Go.ChangeShapes Go.WideShapes Go.ChangeAt Go.RowKit Go.Maps Go.WideMaps
set_option linter.unusedVariables false
set_option linter.unusedSimpArgs false

/-- the numbers of names -/
def sdN (fs : List Ft) (l : List ByteArray) : List Nat := l.map fun s => (findN fs s).getD 0
theorem any_take {l : List Nat} {k y : Nat} (h : l[k]? = some y) (P : Nat → Bool) : (l.take (k + 1)).any P = ((l.take k).any P || P y) := by
  rw [List.take_add_one, h]
  simp
/-- k is marked, if one of the first j that it names is -/
def lup (G : List Nat) (k : Nat) (l : List Nat) : List Nat := if G.contains k || l.any (fun p => G.contains p) then G ++ [k] else G
theorem lup_nil (n : Nat) (G : List Nat) (k : Nat) : bl n (lup G k []) = bl n G := by
  apply bl_ext
  intro i _
  unfold lup
  cases hk : G.contains k
  · rw [if_neg (by simp)]
  · rw [if_pos (by simp), contains_snoc]
    by_cases e : i = k
    · subst e; rw [hk]; rfl
    · have : (i == k) = false := by simpa using e
      rw [this]; simp
theorem lup_one {n : Nat} {G : List Nat} {k y : Nat} (h : k < n) : (bl n G).set k (.bool (G.contains k || G.contains y)) = bl n (lup G k [y]) := by
  unfold lup
  cases hb : (G.contains k || G.contains y)
  · rw [if_neg (by simp only [List.any_cons, List.any_nil, Bool.or_false]; rw [hb]; simp)]
    have hk : G.contains k = false := by cases e : G.contains k; rfl; rw [e] at hb; simp at hb
    have := bl_same (o := G) h
    rw [hk] at this
    exact this
  · rw [if_pos (by simp only [List.any_cons, List.any_nil, Bool.or_false]; exact hb)]
    exact bl_set h
set_option maxRecDepth 100000 in
set_option maxHeartbeats 8000000 in
theorem leftP_any (u u3 u4 uf : Option Addr) (n cu bm c3 c4 cf mf : Nat) (fs : List Ft) (off : List ByteArray) (w : World) (hl : fs.length = n) (hfine : Fine fs) (hm : MapOf w bm fs n) (hnm : NmAt w u3 (nms fs)) (hor : Inn w (.slice u4 n c4) (ord (nms fs))) (hof : off.length = mf) (hmf : mf ≤ 1048576) (hos : ∀ s ∈ off, s.size ≤ maxLen ∧ ∃ q, findN fs s = some q) (hst : StAt w uf off) :
    Calls Try.prog 25 #[.agg #[.slice u n cu, .map (some bm), .slice u3 n c3, .slice u4 n c4], .slice uf mf cf] w fun e w' => (∃ g, e = .returned (.slice (some ⟨g, 0, none⟩) n n) ∧ w.heap.size ≤ g ∧ vb w' g 4 (bl n (lft (nms fs) (sdN fs off) (ord (nms fs))))) ∧ Below w.heap.size w w' := by
  have hn30 : n ≤ 30 := by have := hfine.len; omega
  have hmk := fun W => make_vals (P := Try.prog) 60 4 1 n (.bool false) rfl Try.underlying60 info4 (by omega) (by omega) W
  rw [← bl_nil] at hmk
  have HL := hide hl
  have HF := hide hfine
  have HM := hide hm
  have HNM := hide hnm
  have HOR := hide hor
  have HOF := hide hof
  have HOS := hide hos
  have HST := hide hst
  clear hl hfine hm hnm hor hof hos hst
  have HC0 := hide ((vb_new w 53 [.slice u n cu, .map (some bm), .slice u3 n c3, .slice u4 n c4] _ rfl).bel (ba (Below.refl _ _) (.cells (bl n []).toArray 4)))
  have HV0 := hide (vb_new (w.alloc (.cells #[.slice u n cu, .map (some bm), .slice u3 n c3, .slice u4 n c4] 53)) 4 (bl n []) _ rfl)
  have HB0 := hide (ba (ba (Below.refl w.heap.size w) (.cells #[.slice u n cu, .map (some bm), .slice u3 n c3, .slice u4 n c4] 53)) (.cells (bl n []).toArray 4))
  simp only [World.size_alloc] at HV0
  go_enter Try.func25, Try.ntmps25
  go_wp2_with fail
  clear hmk
  go_loopw [18] (fun s W => ∃ i : Nat, s = .int .i64 (i : Int) ∧ i ≤ mf ∧ vb W (w.heap.size + 1) 4 (bl n (sdN fs (off.take i))) ∧ vb W w.heap.size 53 [.slice u n cu, .map (some bm), .slice u3 n c3, .slice u4 n c4] ∧ Below w.heap.size w W) (fun s _ => mf - (intOf s).toNat)
  case atStart => exact ⟨0, rfl, Nat.zero_le _, unhide HV0, unhide HC0, unhide HB0⟩
  case round =>
    obtain ⟨i, rfl, him, hvb, hcb, hw⟩ := hrel
    rename World => W1
    have HV := hide hvb
    have HC := hide hcb
    have HW := hide hw
    have c1 := hcb.cell (m := 1) rfl
    have c3' := hcb.cell (m := 3) rfl
    clear hvb hcb hw HC0 HV0 HB0
    by_cases h : i < mf
    · have i1 : (i : Int) < (mf : Int) := by omega
      have i0 : (0 : Int) ≤ (i : Int) := Int.natCast_nonneg _
      have iz : decide ((i : Int) < (mf : Int)) = true := decide_eq_true i1
      obtain ⟨s, hx⟩ := get_some (unhide HOF) h
      obtain ⟨hss, q, hq⟩ := unhide HOS s (List.mem_of_getElem? hx)
      obtain ⟨gf, of', rfl, hgf, hcf⟩ := (unhide HST) (by intro e; rw [e] at hx; cases hx)
      have k0 : W1.cell? ⟨gf, of' + i, none⟩ = some (.string s) := ((unhide HW).cell (p := ⟨gf, of' + i, none⟩) hgf).trans (hcf i s hx)
      have hlk := ((unhide HM).bel (unhide HW)).look1 (by rw [unhide HL]; exact Nat.le_refl _) (fun j g _ hg => twi_none' (unhide HF).once j g hg) s hss
      rw [List.take_of_length_le (by rw [unhide HL]; exact Nat.le_refl _)] at hlk
      have hz : findZ fs s = (q : Int) := by unfold findZ; rw [hq]
      rw [hz] at hlk
      have hqn : q < n := by have := findN_lt hq; rw [unhide HL] at this; exact this
      have q1 : (q : Int) < (n : Int) := by omega
      have q0 : (0 : Int) ≤ (q : Int) := Int.natCast_nonneg _
      have d0 := (unhide HV).cell (bl_at (o := sdN fs (off.take i)) hqn)
      have fz : ∀ z, W1.frozen? ⟨w.heap.size + 1, z, none⟩ = false := (unhide HV).frozen
      have hsd : sdN fs (off.take (i + 1)) = sdN fs (off.take i) ++ [q] := by
        unfold sdN
        rw [List.take_add_one, hx, List.map_append]
        simp [hq]
      have HSD := hide hsd
      clear hx hcf hz hsd hq
      go_wp2_with fail
      go_roundw
      case rel =>
        refine ⟨i + 1, by simp, h, ?_, (unhide HC).ne (by omega), Below.setCell (unhide HW) (by show w.heap.size ≤ w.heap.size + 1; omega) _⟩
        rw [unhide HSD, ← bl_set hqn]
        exact (unhide HV).set q _
      case measure => simp only [intOf]; omega
    · have i1 : ¬ (i : Int) < (mf : Int) := by omega
      have iz : decide ((i : Int) < (mf : Int)) = false := decide_eq_false i1
      have hall : off.take i = off := List.take_of_length_le (by rw [unhide HOF]; omega)
      rw [hall] at HV
      clear hall
      have hlo : (ord (nms fs)).length = n := by rw [(unhide HF).all]; exact unhide HL
      have HLO := hide hlo
      have hlt : ∀ x ∈ ord (nms fs), x < n := by have := wo_lt (nms fs) (nms fs).length; rw [nms_len, unhide HL] at this; unfold ord; rw [nms_len, unhide HL]; exact this
      have HLT := hide hlt
      have HOI := hide ((unhide HOR).bel (unhide HW))
      clear hlo hlt h
      generalize hS : sdN fs off = S at *
      generalize hP : ord (nms fs) = P at *
      have HS9 := hide hS
      have HP9 := hide hP
      clear hS hP
      go_wp2_with fail
      clear iz i1
      go_loopw [32] (fun s W => ∃ i : Nat, s = .int .i64 (i : Int) ∧ i ≤ n ∧ vb W (w.heap.size + 1) 4 (bl n (lft (nms fs) S (P.take i))) ∧ vb W w.heap.size 53 [.slice u n cu, .map (some bm), .slice u3 n c3, .slice u4 n c4] ∧ Below w.heap.size w W) (fun s _ => n - (intOf s).toNat)
      case atStart => exact ⟨0, rfl, Nat.zero_le _, unhide HV, unhide HC, unhide HW⟩
      case round =>
        obtain ⟨i, rfl, him, hvb, hcb, hw⟩ := hrel
        clear HV HC HW c1 c3'
        rename World => W2
        have HV := hide hvb
        have HC := hide hcb
        have HW := hide hw
        have c2 := hcb.cell (m := 2) rfl
        clear hvb hcb hw
        by_cases h : i < n
        · have i1 : (i : Int) < (n : Int) := by omega
          have i0 : (0 : Int) ≤ (i : Int) := Int.natCast_nonneg _
          have iz : decide ((i : Int) < (n : Int)) = true := decide_eq_true i1
          obtain ⟨k, hk⟩ := get_some (unhide HLO) h
          have hkn := unhide HLT k (List.mem_of_getElem? hk)
          obtain ⟨u8, c8, e8, h8⟩ := unhide HOR
          have e9 : u4 = u8 := by injection e8
          subst e9
          obtain ⟨go, oo, rfl, hgo, hio⟩ := h8 (by intro e; rw [e] at hk; cases hk)
          have k0 := (hio.below (unhide HW) hgo) i _ (nats_at hk)
          have k1 : (k : Int) < (n : Int) := by omega
          have kz : (0 : Int) ≤ (k : Int) := Int.natCast_nonneg _
          obtain ⟨l, hx⟩ := get_some (show (nms fs).length = n by rw [nms_len]; exact unhide HL) hkn
          obtain ⟨gn, on, rfl, xv, xc, hcx, hin⟩ := ((unhide HNM).bel (unhide HW)).at hx
          have hll : l.length ≤ 1 := (unhide HF).one.one l (List.mem_of_getElem? hx)
          have hlt2 := (unhide HF).one.lt l (List.mem_of_getElem? hx)
          rw [nms_len, unhide HL] at hlt2
          have hst : lft (nms fs) S (P.take (i + 1)) = lup (lft (nms fs) S (P.take i)) k l := by
            rw [List.take_add_one, hk, Option.toList_some, lft_snoc]
            unfold lstep lup
            rw [List.getD_eq_getElem?_getD, hx]
            rfl
          have HSTP := hide hst
          generalize lft (nms fs) S (P.take i) = G at *
          have HIN := hide hin
          have HLT2 := hide hlt2
          have HNK := hide hx
          have HKN := hide hkn
          clear hk e8 h8 hio hx hin hst hlt2
          go_wp2_with fail
          rename World => W2
          go_loopw [42] (fun s W => vb W w.heap.size 53 [.slice u n cu, .map (some bm), .slice (some ⟨gn, on, none⟩) n c3, .slice (some ⟨go, oo, none⟩) n c4] ∧ Below w.heap.size w W ∧ ((s = .int .i64 0 ∧ W = W2) ∨ (s = .int .i64 1 ∧ l.length = 1 ∧ vb W (w.heap.size + 1) 4 (bl n (lup G k l))))) (fun s _ => 1 - (intOf s).toNat)
          case atStart => exact ⟨unhide HC, unhide HW, .inl ⟨rfl, rfl⟩⟩
          case round =>
            obtain ⟨hcb, hw, ⟨rfl, hww⟩ | ⟨rfl, hl1, hvb⟩⟩ := hrel
            · subst hww
              rename World => W2
              clear hcb hw
              match l, hll with
              | [], _ =>
                have hv2 := unhide HV
                rw [← lup_nil n G k] at hv2
                have HV2 := hide hv2
                clear hv2
                go_wp2_with fail
                go_roundw
                case rel =>
                  refine ⟨i + 1, by simp, h, ?_, unhide HC, unhide HW⟩
                  rw [unhide HSTP]
                  exact unhide HV2
                case measure => simp only [intOf]; omega
              | [y], _ =>
                obtain ⟨bx, qx, rfl, hcell⟩ := unhide HIN (by simp)
                have k2 := hcell 0 y rfl
                have hyn := unhide HLT2 y (by simp)
                have y1 : (y : Int) < (n : Int) := by omega
                have y0 : (0 : Int) ≤ (y : Int) := Int.natCast_nonneg _
                have dk := (unhide HV).cell (bl_at (o := G) (unhide HKN))
                have dy := (unhide HV).cell (bl_at (o := G) hyn)
                have fz : ∀ z, W2.frozen? ⟨w.heap.size + 1, z, none⟩ = false := (unhide HV).frozen
                have HV2 := hide ((unhide HV).set k (.bool (G.contains k || G.contains y)))
                rw [lup_one (unhide HKN)] at HV2
                simp only [List.length_singleton, Nat.add_zero] at hcx k2
                clear hcell
                generalize G.contains k = bk at *
                generalize G.contains y = by' at *
                cases bk
                · go_wp2_with fail
                  go_roundw
                  case rel => exact ⟨(unhide HC).ne (by omega), Below.setCell (unhide HW) (by show w.heap.size ≤ w.heap.size + 1; omega) _, .inr ⟨rfl, rfl, unhide HV2⟩⟩
                  case measure => simp [intOf]
                · go_wp2_with fail
                  go_roundw
                  case rel => exact ⟨(unhide HC).ne (by omega), Below.setCell (unhide HW) (by show w.heap.size ≤ w.heap.size + 1; omega) _, .inr ⟨rfl, rfl, unhide HV2⟩⟩
                  case measure => simp [intOf]
            · rw [hl1]
              have HV2 := hide hvb
              have HC2 := hide hcb
              have HW2 := hide hw
              clear hvb hcb hw
              go_wp2_with fail
              go_roundw
              case rel =>
                refine ⟨i + 1, by simp, h, ?_, unhide HC2, unhide HW2⟩
                rw [unhide HSTP]
                exact unhide HV2
              case measure => simp only [intOf]; omega
        · have i1 : ¬ (i : Int) < (n : Int) := by omega
          have iz : decide ((i : Int) < (n : Int)) = false := decide_eq_false i1
          have hall : P.take i = P := List.take_of_length_le (by rw [unhide HLO]; omega)
          rw [hall] at HV
          clear hall
          go_wp2_with fail
          go_ret
          exact ⟨⟨_, rfl, by omega, by rw [unhide HS9, unhide HP9]; exact unhide HV⟩, unhide HW⟩
end Go.Proofs.Ytbenhicdhiichaa
