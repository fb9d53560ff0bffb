/-
  The program's names of what hangs on a feature.
-/
import Derived.Test.YtbenhicdhiichaaLoP
namespace Go.Proofs.Ytbenhicdhiichaa
open Go.ChangeShapes Go.WideShapes Go.ChangeAt Go.RowKit Go.Maps Go.WideMaps
set_option linter.unusedVariables false
set_option linter.unusedSimpArgs false

/-- what hangs on the feature of a name, and the code -/
def Dp (fs : List Ft) (s : ByteArray) (c : Int) (L : List ByteArray) : Prop :=
  if 65536 < s.size then c = 2 ∧ L = []
  else ∃ c0 ab, Chk fs c0 ab ∧ ((c0 ≠ 0 ∧ c = c0 ∧ L = []) ∨ (c0 = 0 ∧ findN fs s = none ∧ c = 8 ∧ L = []) ∨ (c0 = 0 ∧ ∃ q, findN fs s = some q ∧ c = 0 ∧ L = (mrk (nms fs) (fun k => k == q) (ord (nms fs))).map (nmOf fs)))
theorem Dp.uniq {fs : List Ft} {s : ByteArray} {c c' : Int} {L L' : List ByteArray} (h : Dp fs s c L) (k : Dp fs s c' L') : c = c' ∧ L = L' := by
  unfold Dp at h k
  split at h
  · rename_i e; rw [if_pos e] at k; exact ⟨h.1.trans k.1.symm, h.2.trans k.2.symm⟩
  · rename_i e
    rw [if_neg e] at k
    obtain ⟨c0, ab, h1, h2⟩ := h
    obtain ⟨d0, ab', k1, k2⟩ := k
    obtain ⟨rfl, _⟩ := h1.uniq k1
    rcases h2 with ⟨a1, a2, a3⟩ | ⟨a1, a2, a3, a4⟩ | ⟨a1, q, a2, a3, a4⟩ <;> rcases k2 with ⟨b1, b2, b3⟩ | ⟨b1, b2, b3, b4⟩ | ⟨b1, r, b2, b3, b4⟩
    · exact ⟨a2.trans b2.symm, a3.trans b3.symm⟩
    · exact (a1 b1).elim
    · exact (a1 b1).elim
    · exact (b1 a1).elim
    · exact ⟨a3.trans b3.symm, a4.trans b4.symm⟩
    · rw [a2] at b2; cases b2
    · exact (b1 a1).elim
    · rw [a2] at b2; cases b2
    · rw [a2] at b2; cases b2; exact ⟨a3.trans b3.symm, a4.trans b4.symm⟩
/-- what Depends answers -/
def DpAns (fs : List Ft) (s : ByteArray) (w : World) (e : Ending) (w' : World) : Prop := (∃ v c L, e = .returned (.tuple #[v, .int .i64 c]) ∧ Dp fs s c L ∧ SRow w' w.heap.size v L) ∧ Below w.heap.size w w'
theorem filter_take {l : List Nat} {j y : Nat} (h : l[j]? = some y) (P : Nat → Bool) : (l.take (j + 1)).filter P = (l.take j).filter P ++ (if P y then [y] else []) := by
  rw [List.take_add_one, h, List.filter_append]
  cases e : P y <;> simp [List.filter_cons, e]
set_option maxRecDepth 100000 in
set_option maxHeartbeats 8000000 in
theorem depP_any (u : Option Addr) (p po n cu : Nat) (fs : List Ft) (s : ByteArray) (w : World) (hl : fs.length = n) (hn : n ≤ 1048576) (hss : s.size ≤ maxLen) (hs : ∀ f ∈ fs, f.nm.size ≤ maxLen ∧ f.on.size ≤ maxLen ∧ f.ov.size ≤ maxLen) (hu : SlG ftc 15 w u p po fs) :
    Calls Try.prog 15 #[.slice u n cu, .string s] w (DpAns fs s w) := by
  obtain ⟨iI, hi, hz0, hz1, hz2⟩ := info_parts info3
  by_cases hlong : 65536 < s.size
  · have d1 : decide ((65536 : Int) < (s.size : Int)) = true := decide_eq_true (by omega)
    have hdp : Dp fs s 2 [] := by unfold Dp; rw [if_pos hlong]; exact ⟨rfl, rfl⟩
    have HD := hide hdp
    clear hu hs hdp
    unfold maxLen at hss
    go_enter Try.func15, Try.ntmps15
    go_wp2_with fail
    refine bodyPost_ret (v := .tuple #[.slice none 0 0, .int .i64 2]) (by simp [results, Try.results15, go_sem]; done) rfl ?_
    exact ⟨⟨_, _, _, rfl, unhide HD, own_nil _ _ _ _⟩, Below.refl _ _⟩
  have d1 : decide ((65536 : Int) < (s.size : Int)) = false := decide_eq_false (by omega)
  have HRD := hide (readP_any u p po n cu fs w hl hn hs hu)
  have HU := hide hu
  have HL := hide hl
  clear hu hl hs
  go_enter Try.func15, Try.ntmps15
  go_wp2_with fail
  refine (unhide HRD).mono ?_
  rintro e W1 ⟨⟨bm, u3, n3, c3, u4, n4, c4, c, v3, ab, rfl, hck, hsr, hok⟩, hb⟩
  have HB := hide hb
  have HCK := hide hck
  obtain ⟨ua, ca, rfl, _⟩ := own_form hsr
  clear hsr HRD
  by_cases hc : c = 0
  rotate_left
  · have hc' : (c == 0) = false := by simpa using hc
    have hdp : Dp fs s c [] := by unfold Dp; rw [if_neg hlong]; exact ⟨c, ab, hck, .inl ⟨hc, rfl, rfl⟩⟩
    have HD := hide hdp
    clear hck hok hb hdp
    go_wp2_with fail
    refine bodyPost_ret (v := .tuple #[.slice none 0 0, .int .i64 c]) (by simp [results, Try.results15, go_sem]; done) rfl ?_
    exact ⟨⟨_, _, _, rfl, unhide HD, own_nil _ _ _ _⟩, ba (unhide HB) _⟩
  subst hc
  obtain ⟨hfine, rfl⟩ := hck.zero
  obtain ⟨hmap, hbm, hnms, hrow⟩ := hok rfl
  have hlo : (ord (nms fs)).length = n := by rw [hfine.all]; exact unhide HL
  have hn4 : n = n4 := by
    obtain ⟨u9, c9, e9, _⟩ := hrow.form
    injection e9 with a1 a2 a3
    rw [a2, hlo]
  subst hn4
  rw [hlo] at hrow
  obtain ⟨u9, c9, e9, hnat⟩ := hnms
  have e10 : u3 = u9 := by injection e9
  have e11 : n = n3 := by injection e9 with a1 a2 a3; rw [a2, nms_len]; exact (unhide HL).symm
  subst e10
  subst e11
  have hinn : Inn W1 (.slice u4 n c4) (ord (nms fs)) := by
    have h2 := hrow
    rw [← hlo] at h2
    have := h2.inn
    rw [hlo] at this
    exact this
  have hbA := ba (Below.refl W1.heap.size W1) (.cells #[.slice u n cu, .map (some bm), .slice u3 n c3, .slice u4 n c4] 53)
  have hmA := hmap.bel hbA
  have hlk := hmA.look (by rw [unhide HL]; exact Nat.le_refl _) (fun j g _ hg => twi_none' hfine.once j g hg) s hss
  rw [List.take_of_length_le (by rw [unhide HL]; exact Nat.le_refl _)] at hlk
  have HF := hide hfine
  have HMA := hide hmA
  have HNA := hide (hnat.bel hbA)
  have HIA := hide (hinn.bel hbA)
  have HBA := hide (bc hb hbA)
  have HLO := hide hlo
  have HCA := hide (vb_new W1 53 [.slice u n cu, .map (some bm), .slice u3 n c3, .slice u4 n c4] _ rfl)
  have hn30 : n ≤ 30 := by have := hfine.len; rw [unhide HL] at this; exact this
  cases hq : findN fs s with
  | none =>
    rw [hq] at hlk
    simp only [Option.isSome_none] at hlk
    have hdp : Dp fs s 8 [] := by unfold Dp; rw [if_neg hlong]; exact ⟨0, [], hck, .inr (.inl ⟨rfl, hq, rfl, rfl⟩)⟩
    have HD := hide hdp
    clear hck hok hb hdp hmap hbm hrow e9 hnat hinn hbA hmA hfine hlo hq
    go_wp2_with fail
    refine bodyPost_ret (v := .tuple #[.slice none 0 0, .int .i64 8]) (by simp [results, Try.results15, go_sem]; done) rfl ?_
    exact ⟨⟨_, _, _, rfl, unhide HD, own_nil _ _ _ _⟩, unhide HBA⟩
  | some q =>
    rw [hq] at hlk
    simp only [Option.isSome_some] at hlk
    have HQ := hide hq
    have hqn : q < n := by have := findN_lt hq; rw [unhide HL] at this; exact this
    have hbB := ba (Below.refl _ (W1.alloc (.cells #[.slice u n cu, .map (some bm), .slice u3 n c3, .slice u4 n c4] 53))) (.cells #[.string s] 9)
    have HLP := hide (leftP_any u u3 u4 (some ⟨(W1.alloc (.cells #[.slice u n cu, .map (some bm), .slice u3 n c3, .slice u4 n c4] 53)).heap.size, 0, none⟩) n cu bm c3 c4 1 1 fs [s] _ (unhide HL) hfine (hmA.bel hbB) ((unhide HNA).bel hbB) ((unhide HIA).bel hbB) rfl (by omega) (by intro t ht; simp only [List.mem_singleton] at ht; subst ht; exact ⟨hss, q, hq⟩) (fun _ => ⟨_, 0, rfl, by simp, fun i t ht => by
      rcases i with _ | i
      · simp only [List.getElem?_cons_zero, Option.some.injEq] at ht; subst ht; simp [go_sem]
      · simp at ht⟩))
    have HBB := hide (bc (unhide HBA) hbB)
    have HCB := hide ((unhide HCA).bel hbB)
    have HIB := hide ((unhide HIA).bel hbB)
    simp only [World.size_alloc] at HLP
    clear hok hb hmap hbm hrow e9 hnat hinn hbA hmA hq hbB
    go_wp2_with fail
    refine (unhide HLP).mono ?_
    rintro e W2 ⟨⟨g, rfl, hg, hvb⟩, hb2'⟩
    have hb2 : Below ((W1.alloc (.cells #[.slice u n cu, .map (some bm), .slice u3 n c3, .slice u4 n c4] 53)).alloc (.cells #[.string s] 9)).heap.size ((W1.alloc (.cells #[.slice u n cu, .map (some bm), .slice u3 n c3, .slice u4 n c4] 53)).alloc (.cells #[.string s] 9)) W2 := by rw [World.size_alloc, World.size_alloc]; exact hb2'
    clear hb2'
    have hsd : sdN fs [s] = [q] := by simp [sdN, unhide HQ]
    rw [hsd] at hvb
    have hmf := marks_filter hfine.one [q] (fun k => k == q) (fun k _ => by rw [Bool.eq_iff_iff]; simp)
    have hlt : ∀ x ∈ ord (nms fs), x < n := by have := wo_lt (nms fs) (nms fs).length; rw [nms_len, unhide HL] at this; unfold ord; rw [nms_len, unhide HL]; exact this
    have hdp : Dp fs s 0 ((mrk (nms fs) (fun k => k == q) (ord (nms fs))).map (nmOf fs)) := by unfold Dp; rw [if_neg hlong]; exact ⟨0, [], hck, .inr (.inr ⟨rfl, q, unhide HQ, rfl, rfl⟩)⟩
    rw [← hmf] at hdp
    have HD := hide hdp
    have HLT := hide hlt
    have HV2 := hide hvb
    have HB2 := hide (bc (unhide HBB) hb2)
    have HC2 := hide ((unhide HCB).bel hb2)
    have HI2 := hide ((unhide HIB).bel hb2)
    have cq := ((unhide HCB).bel hb2).cell (m := 3) rfl
    clear hvb hb2 hsd hmf hlt hdp hck hfine HLP
    generalize lft (nms fs) [q] (ord (nms fs)) = G at *
    generalize ord (nms fs) = P at *
    go_wp2_with fail
    clear cq
    go_loopw [12, 43] (fun v z W => ∃ j : Nat, z = .int .i64 (j : Int) ∧ j ≤ n ∧ W.ownsRow W2.heap.size 3 1 v ((P.take j).filter fun x => G.contains x).length (natV ((P.take j).filter fun x => G.contains x)) ∧ Below W2.heap.size W2 W) (fun _ z _ => n - (intOf z).toNat)
    case atStart => exact ⟨0, rfl, Nat.zero_le _, own_nil _ _ _ _, Below.refl _ _⟩
    case round =>
      obtain ⟨j, rfl, hjn, hown, hbw⟩ := hrel
      rename World => W5
      have hfl : ((P.take j).filter fun x => G.contains x).length ≤ n := Nat.le_trans (List.length_filter_le _ _) (by rw [List.length_take]; omega)
      obtain ⟨uh, ch, rfl, _, _, hfh⟩ := own_form hown
      have HOW := hide hown
      have HBW := hide hbw
      clear hown hbw
      by_cases h : j < n
      · have i1 : (j : Int) < (n : Int) := by omega
        have i0 : (0 : Int) ≤ (j : Int) := Int.natCast_nonneg _
        have iz : decide ((j : Int) < (n : Int)) = true := decide_eq_true i1
        obtain ⟨k, hk⟩ := get_some (unhide HLO) h
        have hkn := unhide HLT k (List.mem_of_getElem? hk)
        obtain ⟨u8, c8, e8, h8⟩ := unhide HI2
        have e9 : u4 = u8 := by injection e8
        subst e9
        obtain ⟨go, oo, rfl, hgo, hio⟩ := h8 (by intro e; rw [e] at hk; cases hk)
        have k0 := (hio.below (unhide HBW) hgo) j _ (nats_at hk)
        have k1 : (k : Int) < (n : Int) := by omega
        have kz : (0 : Int) ≤ (k : Int) := Int.natCast_nonneg _
        have d0 := ((unhide HV2).below (unhide HBW) (unhide HV2).lt).cell (bl_at (o := G) hkn)
        have hft := filter_take hk (fun x => G.contains x)
        have HFT := hide hft
        clear hk e8 h8 hio hft hfh
        generalize hgk : G.contains k = gk at *
        have HGK := hide hgk
        clear hgk
        cases gk
        · clear HGK
          go_wp2_with fail
          go_roundw
          case rel =>
            refine ⟨j + 1, by simp, h, ?_, unhide HBW⟩
            rw [unhide HFT]
            simpa using unhide HOW
          case measure => simp only [intOf]; omega
        · generalize hLL : ((P.take j).filter fun x => G.contains x) = LL at *
          have HLL := hide hLL
          clear hLL
          go_wp2_with (at_builtin; refine unhide ?_)
          refine hide ?_
          refine wpList_append_own _ rfl _ _ 45 rfl W2.heap.size 3 iI _ 1 8 Try.underlying45 hi hz0 hz1 hz2 rfl (by decide) _ LL.length _ rfl ((unhide HOW).alloc _) _ 1 1 (natV [k]) rfl rfl (by first | exact news_cells _ _ rfl | exact news_cells _ _ (by simp)) (by intro u hu; simp only [natV, List.map_cons, List.map_nil, List.mem_singleton] at hu; subst hu; rfl) (by unfold maxLen; omega) (by omega) (Nat.le_trans (unhide HBW).size (by simp)) ?_
          intro v' w1 hown' hgrow _
          have hbw : Below W2.heap.size W2 w1 := ((unhide HBW).alloc (unhide HBW).size _).grown hgrow (Nat.le_trans (unhide HBW).size (by simp)) (fun g hg => (own_ge (unhide HOW) g hg).1)
          have hown2 : w1.ownsRow W2.heap.size 3 1 v' (LL ++ [k]).length (natV (LL ++ [k])) := by
            rw [List.length_append]
            have e : natV (LL ++ [k]) = natV LL ++ natV [k] := by simp [natV]
            rw [e]
            exact hown'
          have HO2 := hide hown2
          have HBX := hide hbw
          clear hown' hgrow hown2 hbw
          go_wp2_with fail
          go_roundw
          case rel =>
            refine ⟨j + 1, by simp, h, ?_, unhide HBX⟩
            rw [unhide HFT]
            simpa using unhide HO2
          case measure => simp only [intOf]; omega
      · have i1 : ¬ (j : Int) < (n : Int) := by omega
        have iz : decide ((j : Int) < (n : Int)) = false := decide_eq_false i1
        rw [List.take_of_length_le (by rw [unhide HLO]; omega)] at *
        generalize hLL : (P.filter fun x => G.contains x) = LL at *
        have hll : ∀ x ∈ LL, x < n := by
          intro x hx
          rw [← hLL] at hx
          exact unhide HLT x (List.mem_filter.1 hx).1
        clear hLL
        have HNO := hide (namesP_any u u3 u4 uh p po n cu bm n c3 n c4 ch LL.length fs LL W5 (unhide HL) ((unhide HU).bel (bc (unhide HB2) (unhide HBW))) rfl (by omega) hll (fun h0 => by
          obtain ⟨g9, e9, _, hg9, hc9⟩ := hfh (by intro e; exact h0 (List.eq_nil_of_length_eq_zero e))
          exact ⟨g9, 0, e9, hg9, fun i z hi => by rw [Nat.zero_add]; apply hc9; rw [natV_nats, List.getElem?_map, hi]; rfl⟩))
        have hcb := (unhide HC2).bel (unhide HBW)
        have c0 := hcb.cell (m := 0) rfl
        have c1 := hcb.cell (m := 1) rfl
        have c2 := hcb.cell (m := 2) rfl
        have c3' := hcb.cell (m := 3) rfl
        clear hcb hfh hll
        go_wp2_with fail
        refine (unhide HNO).mono ?_
        rintro e W6 ⟨⟨vs, rfl, hs2⟩, hb6⟩
        have hs3 := hs2
        unfold SRow at hs3
        rw [List.length_map] at hs3
        obtain ⟨us, cs, rfl, _⟩ := own_form hs3
        have HS2 := hide (SRow.mono hs2 (bc (unhide HB2) (unhide HBW)).size)
        have HB6 := hide (bc (bc (unhide HB2) (unhide HBW)) hb6)
        clear hs2 hs3 hb6 c0 c1 c2 c3'
        go_wp2_with fail
        refine bodyPost_ret (v := .tuple #[.slice us LL.length cs, .int .i64 0]) (by simp [results, Try.results15, go_sem]; done) rfl ?_
        exact ⟨⟨_, _, _, rfl, unhide HD, unhide HS2⟩, unhide HB6⟩
end Go.Proofs.Ytbenhicdhiichaa
