/-
  What is wrong with a polygon, as the program finds it.
-/
import Derived.Test.YtegfghpaldnpeaaMeets
namespace Go.Proofs.Ytegfghpaldnpeaa
open Go.ChangeShapes Go.WideShapes Go.ChangeAt Go.RowKit Go.Shelf
set_option linter.unusedVariables false
set_option linter.unusedSimpArgs false

def idxI : Option Nat → Int
  | some i => (i : Int)
  | none => -1
theorem idx_first {α : Type} [Inhabited α] (p : α → Bool) (zs : List α) (n : Nat) (hn : zs.length = n) : Go.Lib.idxBy (fun _ y => p y) (zs.take n) default = idxI (firstI (fun i => p zs[i]!) n) := by
  cases h : firstI (fun i => p zs[i]!) n with
  | none => exact Go.Lib.idxBy_miss _ _ _ _ (fun j hj => firstI_none_iff h j hj)
  | some i =>
    unfold firstI at h
    rw [List.find?_range_eq_some] at h
    obtain ⟨h1, h2, h3⟩ := h
    refine Go.Lib.idxBy_hit _ _ _ _ _ (by simpa using h2) (by omega) h1 fun j hj => ?_
    have := h3 j hj
    simpa using this
theorem at_bang (L : List Pt) (i : Nat) (h : i < L.length) : L[i]! = ptAt L i := by
  unfold ptAt
  rw [List.getElem!_eq_getElem?_getD, List.getD_eq_getElem?_getD, List.getElem?_eq_getElem h]
  rfl
theorem idx_pts (b off cap n : Nat) (L : List Pt) (w : World) (hN : L.length = n) (hn : n ≤ 4611686018427387904) (hb : b < w.heap.size) (hc : PtsAt w b off L) :
    Calls Try.prog 45 #[.slice (some ⟨b, off, none⟩) n cap, .func (.func 42) #[] #[]] w fun e w' => e = .returned (.int .i64 (idxI (firstI (badI L) n))) ∧ Below w.heap.size w w' := by
  have h := AnyQ.slices_IndexFunc Try.l45 2 Try.isAgg26 Try.sizeOf26 encPt (fun _ => rfl) (fun x => !ptOk x) 42 #[] enters42 b off n cap L w (wrong_pred w) (Nat.le_of_eq hN.symm) (by omega) hb (enc_cells hc)
  change Calls Try.prog 45 _ _ _ at h
  rw [idx_first (fun x => !ptOk x) L n hN] at h
  have e : firstI (fun i => !ptOk L[i]!) n = firstI (badI L) n := firstI_congr fun j hj => by rw [at_bang L j (by omega)]; rfl
  rw [e] at h
  exact h
theorem eq_pts : EqlAt Try.prog 26 (fun x : Pt => .agg (encPt x).toArray) (fun x y => decide (x = y)) :=
  ⟨fun x y w => eql26 x.1 x.2 y.1 y.2 w, GuardAt.agg (fun x : Pt => (encPt x).toArray) (by kernel_rfl)⟩
theorem has_pt (b off cap i : Nat) (L : List Pt) (p : Pt) (w : World) (hi : i ≤ L.length) (hn : i ≤ 4611686018427387904) (hc : PtsAt w b off L) :
    Calls Try.prog 46 #[.slice (some ⟨b, off, none⟩) i cap, .agg #[.int .i64 p.1, .int .i64 p.2]] w fun e w' => e = .returned (.bool ((List.range i).any fun k => decide (ptAt L k = p))) ∧ Below w.heap.size w w' := by
  have h := AnyQ.slices_Contains Try.l46 2 Try.isAgg26 Try.sizeOf26 encPt (fun _ => rfl) (fun x y => decide (x = y)) eq_pts b off i cap L p w hi (by omega) (enc_cells hc)
  change Calls Try.prog 46 _ _ _ at h
  have e : ((L.take i).any fun y => decide (p = y)) = (List.range i).any fun k => decide (ptAt L k = p) := by
    rw [Bool.eq_iff_iff, List.any_eq_true, List.any_eq_true]
    constructor
    · rintro ⟨y, hy, he⟩
      obtain ⟨j, hj, rfl⟩ := List.getElem_of_mem hy
      have hj' : j < i ∧ j < L.length := by
        have := hj
        simp at this
        omega
      refine ⟨j, by simpa using hj'.1, ?_⟩
      have h1 := ptAt_some (L := L) hj'.2
      rw [List.getElem?_eq_getElem hj'.2] at h1
      simp only [List.getElem_take] at he
      rw [← Option.some.inj h1]
      simpa [eq_comm] using he
    · rintro ⟨k, hk, he⟩
      have hk' : k < i := by simpa using hk
      refine ⟨ptAt L k, ?_, by simpa [eq_comm] using he⟩
      have h1 := ptAt_some (L := L) (i := k) (by omega)
      exact List.mem_of_getElem? (i := k) (by rw [List.getElem?_take, if_pos hk']; exact h1)
  rw [e] at h
  exact h
def encSg (s : Sg) : List Value := [.int .i64 s.1.1, .int .i64 s.1.2, .int .i64 s.2.1, .int .i64 s.2.2]
theorem enters73 : ∀ args w, (callFunc 73 args).run Try.prog w = .ok (.enter 73 args) w := enters_of Try.func73 (by kernel_rfl) rfl
theorem iblk_bel {w W : World} {k t : Nat} {F : List Int} (h : iblk w k t F) (hb : Below w.heap.size w W) : iblk W k t F := h.bel hb
/-- a side of right points -/
abbrev OkSg := { s : Sg // ptOk s.1 = true ∧ ptOk s.2 = true }
instance : Inhabited OkSg := ⟨((0, 0), (0, 0)), by decide⟩
def okS (S : List Sg) (h : ∀ t ∈ S, ptOk t.1 = true ∧ ptOk t.2 = true) : List OkSg := S.attachWith _ h
theorem okS_len (S : List Sg) (h : ∀ t ∈ S, ptOk t.1 = true ∧ ptOk t.2 = true) : (okS S h).length = S.length := by simp [okS]
theorem okS_at (S : List Sg) (h : ∀ t ∈ S, ptOk t.1 = true ∧ ptOk t.2 = true) (i : Nat) (s : Sg) (hs : S[i]? = some s) : ((okS S h)[i]!).val = s := by
  have hi : i < S.length := (List.getElem?_eq_some_iff.1 hs).1
  have e : (okS S h)[i]? = some ⟨s, h s (List.mem_of_getElem? hs)⟩ := by
    unfold okS
    rw [List.getElem?_attachWith]
    simp [hs]
  rw [List.getElem!_eq_getElem?_getD, e]
  rfl
theorem idx_sides (q k cap n : Nat) (L : List Pt) (w : World) (hN : L.length = n) (hn : n ≤ 200) (hq : w.cell? ⟨q, 0, none⟩ = some (.slice (some ⟨k, 0, none⟩) n cap)) (hk : iblk w k 54 (flatG (sides L)))
    (hbad : firstI (badI L) L.length = none) (hdup : firstI (dupI L) L.length = none) :
    Calls Try.prog 48 #[.slice (some ⟨k, 0, none⟩) n cap, .func (.func 73) #[] #[.pointer (some ⟨q, 0, none⟩)]] w fun e w' => e = .returned (.int .i64 (idxI (firstI (wrongI L) n))) ∧ Below w.heap.size w w' := by
  have okp : ∀ t, t < L.length → ptOk (ptAt L t) = true := fun t ht => by
    have := firstI_none_iff hbad t ht
    unfold badI at this
    simpa using this
  have hok : ∀ t ∈ sides L, ptOk t.1 = true ∧ ptOk t.2 = true := by
    intro t ht
    unfold sides at ht
    simp only [List.mem_map, List.mem_range] at ht
    obtain ⟨i, hi, rfl⟩ := ht
    exact ⟨okp i hi, okp _ (Nat.mod_lt _ (by omega))⟩
  have hlen : (okS (sides L) hok).length = n := by rw [okS_len, sides_len, hN]
  have hpred : PredBelow Try.prog 73 #[.pointer (some ⟨q, 0, none⟩)] (fun x : OkSg => .agg (encSg x.val).toArray) (fun x => meets (sides L) x.val) w := fun W x hb => by
    show Calls Try.prog 73 #[.agg #[.int .i64 x.val.1.1, .int .i64 x.val.1.2, .int .i64 x.val.2.1, .int .i64 x.val.2.2], .pointer (some ⟨q, 0, none⟩)] W _
    refine (meets_core q k cap n (sides L) x.val.1.1 x.val.1.2 x.val.2.1 x.val.2.2 W (hide (by rw [sides_len, hN])) hn ?_ (hide (hk.bel hb)) (hide hok) (hide x.property.1) (hide x.property.2)).mono fun e w' ⟨he, hw⟩ => ⟨he, hb.trans (hw.mono hb.size)⟩
    exact keep1 hb hq
  have hcells : ∀ j, j < (okS (sides L) hok).length → ∀ i v, (encSg (okS (sides L) hok)[j]!.val)[i]? = some v → w.cell? ⟨k, 0 + j * 4 + i, none⟩ = some v := by
    intro j hj i v hv
    have hj' : j < L.length := by omega
    have hs := sides_at L j hj'
    rw [okS_at _ hok j _ hs] at hv
    have hf := flatG_at (sides L) j _ hs
    rw [Nat.zero_add]
    match i, hv with
    | 0, hv => simp [encSg] at hv; rw [← hv]; exact hk.cell hf.1
    | 1, hv => simp [encSg] at hv; rw [← hv]; exact hk.cell hf.2.1
    | 2, hv => simp [encSg] at hv; rw [← hv]; exact hk.cell hf.2.2.1
    | 3, hv => simp [encSg] at hv; rw [← hv]; exact hk.cell hf.2.2.2
    | i + 4, hv => simp [encSg] at hv
  have h := AnyQ.slices_IndexFunc Try.l48 4 Try.isAgg54 Try.sizeOf54 (fun x : OkSg => encSg x.val) (fun _ => rfl) (fun x => meets (sides L) x.val) 73 #[.pointer (some ⟨q, 0, none⟩)] enters73 k 0 n cap (okS (sides L) hok) w hpred (Nat.le_of_eq hlen.symm) (by omega) hk.lt hcells
  change Calls Try.prog 48 _ _ _ at h
  rw [idx_first (fun x : OkSg => meets (sides L) x.val) (okS (sides L) hok) n hlen] at h
  have e : firstI (fun i => meets (sides L) (okS (sides L) hok)[i]!.val) n = firstI (wrongI L) n := firstI_congr fun j hj => by
    have hj' : j < L.length := by omega
    rw [okS_at _ hok j _ (sides_at L j hj')]
    exact meets_wrong hdup hj'
  rw [e] at h
  exact h
theorem mw_any (k cap n : Nat) (w : World) : Calls Try.prog 49 #[.slice (some ⟨k, 0, none⟩) n cap] w fun e w' => e = .returned (.func (.func 73) #[] #[.pointer (some ⟨w.heap.size, 0, none⟩)]) ∧ w' = w.alloc (.cells #[.slice (some ⟨k, 0, none⟩) n cap] 64) := by
  go_enter Try.func49, Try.ntmps49
  go_wp2
  go_ret
  exact ⟨rfl, rfl⟩

set_option maxRecDepth 100000 in
set_option maxHeartbeats 4000000 in
theorem polyP_main (b off cap n : Nat) (L : List Pt) (w : World) (HN : Hid (L.length = n)) (hn : n ≤ 200) (hcap : Hid (n ≤ cap)) (HBB : Hid (b < w.heap.size)) (HX : Hid (PtsAt w b off L)) :
    Calls Try.prog 23 #[.slice (some ⟨b, off, none⟩) n cap] w fun e w' => e = .returned (.tuple #[.int .i64 (pcode L).1, .int .i64 (pcode L).2]) ∧ Below w.heap.size w w' := by
  have n0 : (0 : Int) ≤ (n : Int) := Int.natCast_nonneg _
  have t1 : decide ((4096 : Int) < (n : Int)) = false := decide_eq_false (by omega)
  have t2 : decide ((200 : Int) < (n : Int)) = false := decide_eq_false (by omega)
  have H45 := hide (idx_pts b off cap n L w (unhide HN) (by omega) (unhide HBB) (unhide HX))
  cases hf : firstI (badI L) n with
  | some i =>
    rw [hf] at H45
    have t3 : decide ((0 : Int) ≤ (i : Int)) = true := decide_eq_true (by omega)
    have HF := hide hf
    clear hf
    dsimp only [idxI] at H45
    go_enter Try.func23, Try.ntmps23
    go_wp2_with fail
    refine (unhide H45).mono ?_
    rintro e W1 ⟨rfl, hb⟩
    have HB := hide hb
    clear hb
    go_wp2_with fail
    refine bodyPost_ret (v := .tuple #[.int .i64 1, .int .i64 (i : Int)]) (by simp [results, Try.results23, go_sem]) rfl ⟨tup2 ?_, unhide HB⟩
    exact pc_bad (by rw [unhide HN]; omega) (by rw [unhide HN]; exact unhide HF)
  | none =>
    rw [hf] at H45
    have HBAD : Hid (firstI (badI L) L.length = none) := hide (by rw [unhide HN]; exact hf)
    clear hf
    dsimp only [idxI] at H45
    by_cases h3 : n < 3
    · have t3 : decide ((n : Int) < 3) = true := decide_eq_true (by omega)
      go_enter Try.func23, Try.ntmps23
      go_wp2_with fail
      refine (unhide H45).mono ?_
      rintro e W1 ⟨rfl, hb⟩
      have HB := hide hb
      clear hb
      go_wp2_with fail
      refine bodyPost_ret (v := .tuple #[.int .i64 3, .int .i64 0]) (by simp [results, Try.results23, go_sem]) rfl ⟨tup2 ?_, unhide HB⟩
      exact pc_form (by rw [unhide HN]; omega) (unhide HBAD) (by rw [unhide HN]; exact h3)
    have t3 : decide ((n : Int) < 3) = false := decide_eq_false (by omega)
    go_enter Try.func23, Try.ntmps23
    go_wp2_with fail
    refine (unhide H45).mono ?_
    rintro e W1 ⟨rfl, hb⟩
    have HB1 := hide hb
    clear hb
    go_wp2_with fail
    go_loopw [27] (fun s W => ∃ i : Nat, s = .int .i64 (i : Int) ∧ i ≤ n ∧ (∀ j, j < i → dupI L j = false) ∧ Below w.heap.size w W) (fun s _ => n - (intOf s).toNat)
    case atStart => exact ⟨0, rfl, Nat.zero_le _, fun j hj => by omega, unhide HB1⟩
    case round =>
      obtain ⟨i, rfl, hi, ht, hw⟩ := hrel
      have HT := hide ht
      have HW := hide hw
      clear ht hw
      by_cases h : i < n
      · have i1 : (i : Int) < (n : Int) := by omega
        have i0 : (0 : Int) ≤ (i : Int) := Int.natCast_nonneg _
        have iz : decide ((i : Int) < (n : Int)) = true := decide_eq_true i1
        have hc := unhide hcap
        have ic : (i : Int) ≤ (cap : Int) := by omega
        have ic2 : i ≤ cap := by omega
        clear hc
        obtain ⟨x0, x1⟩ := ((unhide HX).bel (unhide HW) (unhide HBB)) i _ (ptAt_some (L := L) (i := i) (by rw [unhide HN]; exact h))
        have H46 := fun W (hW : Below w.heap.size w W) => has_pt b off cap i L (ptAt L i) W (by rw [unhide HN]; omega) (by omega) ((unhide HX).bel hW (unhide HBB))
        have ed : dupI L i = (List.range i).any fun k => decide (ptAt L k = ptAt L i) := rfl
        rw [← ed] at H46
        clear ed
        obtain ⟨⟨p1, p2⟩, hp⟩ : ∃ p : Pt, ptAt L i = p := ⟨_, rfl⟩
        rw [hp] at x0 x1 H46
        dsimp only at x0 x1 H46
        have G46 := hide H46
        clear H46 hp
        cases hd : dupI L i
        all_goals
          rw [hd] at G46
          have HD := hide hd
          clear hd
        · go_wp2_with fail
          go_region_held3 (fun wx => wx.cell? ⟨wr.heap.size, 0, none⟩ = some (.int .i64 p1) ∧ wx.cell? ⟨wr.heap.size, 1, none⟩ = some (.int .i64 p2))
            (simp (maxDischargeDepth := 12) [go_sem, le1, lt1, *])
            (first
            | (go_at_call 46; refine (unhide G46 _ (by repeat (first | exact unhide HW | refine ba ?_ _ | refine Below.drew ?_))).mono ?_; rintro e w' ⟨rfl, hb⟩; have HB := hide hb; have k0 := keep1 hb (b := wr.heap.size) (o := 0) (v := .int .i64 p1) (by simp (maxDischargeDepth := 12) [go_sem, le1, lt1, *]); have k1 := keep1 hb (b := wr.heap.size) (o := 1) (v := .int .i64 p2) (by simp (maxDischargeDepth := 12) [go_sem, le1, lt1, *]); clear hb))
          all_goals
            go_wp2_with fail
            go_roundw
            case rel =>
              refine ⟨i + 1, by simp, h, fun j hj => ?_, by repeat (first | exact unhide HW | refine bc ?_ (unhide HB) | refine ba ?_ _ | refine Below.drew ?_)⟩
              rcases Nat.lt_succ_iff_lt_or_eq.1 hj with h1 | h1
              · exact unhide HT j h1
              · subst h1; exact unhide HD
            case measure => simp only [intOf]; omega
        · go_wp2_with fail
          go_region_held3 (fun wx => wx.cell? ⟨wr.heap.size, 0, none⟩ = some (.int .i64 p1) ∧ wx.cell? ⟨wr.heap.size, 1, none⟩ = some (.int .i64 p2))
            (simp (maxDischargeDepth := 12) [go_sem, le1, lt1, *])
            (first
            | (go_at_call 46; refine (unhide G46 _ (by repeat (first | exact unhide HW | refine ba ?_ _ | refine Below.drew ?_))).mono ?_; rintro e w' ⟨rfl, hb⟩; have HB := hide hb; have k0 := keep1 hb (b := wr.heap.size) (o := 0) (v := .int .i64 p1) (by simp (maxDischargeDepth := 12) [go_sem, le1, lt1, *]); have k1 := keep1 hb (b := wr.heap.size) (o := 1) (v := .int .i64 p2) (by simp (maxDischargeDepth := 12) [go_sem, le1, lt1, *]); clear hb))
          all_goals
            go_wp2_with fail
            refine bodyPost_ret (v := .tuple #[.int .i64 7, .int .i64 (i : Int)]) (by simp [results, Try.results23, go_sem]) rfl ⟨tup2 ?_, by repeat (first | exact unhide HW | refine bc ?_ (unhide HB) | refine ba ?_ _ | refine Below.drew ?_)⟩
            exact pc_dup (by rw [unhide HN]; omega) (unhide HBAD) (by rw [unhide HN]; exact h3) (firstI_some (unhide HT) (by rw [unhide HN]; exact h) (unhide HD))
      · have i1 : ¬ (i : Int) < (n : Int) := by omega
        have iz : decide ((i : Int) < (n : Int)) = false := decide_eq_false i1
        have en : i = n := by omega
        have HDUP : Hid (firstI (dupI L) L.length = none) := hide (firstI_none (by rw [unhide HN, ← en]; exact unhide HT))
        clear HT hi en
        go_wp2_with fail
        refine (sidesOf_any b off cap n L _ HN hn (Nat.lt_of_lt_of_le (unhide HBB) (unhide HW).size) (hide ((unhide HX).bel (unhide HW) (unhide HBB)))).mono ?_
        rintro e W2 ⟨⟨g, rfl, hg, hk⟩, hb⟩
        have HW2 := hide (bc (unhide HW) hb)
        have HK := hide hk
        clear hb hk hg
        go_wp2_with fail
        refine (mw_any _ _ _ _).mono ?_
        rintro e W3 ⟨rfl, rfl⟩
        go_wp2_with fail
        have H48 := hide (idx_sides W2.heap.size g n n L (W2.alloc (.cells #[.slice (some ⟨g, 0, none⟩) n n] 64)) (unhide HN) hn (by simp [go_sem]) ((unhide HK).bel (ba (Below.refl _ _) _)) (unhide HBAD) (unhide HDUP))
        cases hf : firstI (wrongI L) n with
        | some j =>
          rw [hf] at H48
          have t4 : decide ((0 : Int) ≤ (j : Int)) = true := decide_eq_true (by omega)
          have HF := hide hf
          clear hf
          dsimp only [idxI] at H48
          refine (unhide H48).mono ?_
          rintro e W4 ⟨rfl, hb⟩
          have HW4 := hide (bc (ba (unhide HW2) _) hb)
          clear hb
          go_wp2_with fail
          refine bodyPost_ret (v := .tuple #[.int .i64 13, .int .i64 (j : Int)]) (by simp [results, Try.results23, go_sem]) rfl ⟨tup2 ?_, unhide HW4⟩
          exact pc_wrong (by rw [unhide HN]; omega) (unhide HBAD) (by rw [unhide HN]; exact h3) (unhide HDUP) (by rw [unhide HN]; exact unhide HF)
        | none =>
          rw [hf] at H48
          have HF := hide hf
          clear hf
          dsimp only [idxI] at H48
          refine (unhide H48).mono ?_
          rintro e W4 ⟨rfl, hb⟩
          have HW4 := hide (bc (ba (unhide HW2) _) hb)
          clear hb
          go_wp2_with fail
          refine bodyPost_ret (v := .tuple #[.int .i64 0, .int .i64 0]) (by simp [results, Try.results23, go_sem]) rfl ⟨tup2 ?_, unhide HW4⟩
          exact pc_ok (by rw [unhide HN]; omega) (unhide HBAD) (by rw [unhide HN]; exact h3) (unhide HDUP) (by rw [unhide HN]; exact unhide HF)
theorem polyP_any (b off cap n : Nat) (L : List Pt) (w : World) (HN : Hid (L.length = n)) (hn : n ≤ 4611686018427387904) (hcap : Hid (n ≤ cap)) (HBB : Hid (b < w.heap.size)) (HX : Hid (PtsAt w b off L)) :
    Calls Try.prog 23 #[.slice (some ⟨b, off, none⟩) n cap] w fun e w' => e = .returned (.tuple #[.int .i64 (pcode L).1, .int .i64 (pcode L).2]) ∧ Below w.heap.size w w' := by
  by_cases h1 : 4096 < n
  · have t1 : decide ((4096 : Int) < (n : Int)) = true := decide_eq_true (by omega)
    go_enter Try.func23, Try.ntmps23
    go_wp2_with fail
    exact bodyPost_ret (v := .tuple #[.int .i64 2, .int .i64 0]) (by simp [results, Try.results23, go_sem]) rfl ⟨tup2 (pc_long (by rw [unhide HN]; exact h1)), Below.refl _ _⟩
  by_cases h2 : 200 < n
  · have t1 : decide ((4096 : Int) < (n : Int)) = false := decide_eq_false (by omega)
    have t2 : decide ((200 : Int) < (n : Int)) = true := decide_eq_true (by omega)
    go_enter Try.func23, Try.ntmps23
    go_wp2_with fail
    exact bodyPost_ret (v := .tuple #[.int .i64 10, .int .i64 0]) (by simp [results, Try.results23, go_sem]) rfl ⟨tup2 (pc_many (by rw [unhide HN]; exact h1) (by rw [unhide HN]; exact h2)), Below.refl _ _⟩
  exact polyP_main b off cap n L w HN (by omega) hcap HBB HX
end Go.Proofs.Ytegfghpaldnpeaa
