/-
  The program's numbers of what a feature names.
-/
import Derived.Test.YtkkmikgeppkhiaaMpF
import Derived.Test.YtkkmikgeppkhiaaStP
namespace Go.Proofs.Ytkkmikgeppkhiaa
open Go.ChangeShapes Go.WideShapes Go.ChangeAt Go.RowKit Go.Maps Go.WideMaps
set_option linter.unusedVariables false
set_option linter.unusedSimpArgs false

/-- what namedBy answers -/
def NbAns (fs : List Ft) (f : Ft) (w : World) (e : Ending) (w' : World) : Prop :=
  (∃ va, e = .returned (.tuple #[va, .string ((wrg fs f).getD ⟨#[]⟩), .int .i64 (if (wrg fs f).isSome then 6 else 0)]) ∧ (∃ ua na ca, va = .slice ua na ca) ∧ (wrg fs f = none → w'.ownsRow (w.heap.size + 2) 3 1 va (nmd fs f).length (natV (nmd fs f)))) ∧ Below w.heap.size w w'
theorem nb_bad {fs : List Ft} {f : Ft} {w w' : World} {s : ByteArray} (h : wrg fs f = some s) (hb : Below w.heap.size w w') : NbAns fs f w (.returned (.tuple #[.slice none 0 0, .string s, .int .i64 6])) w' := by
  unfold NbAns
  rw [h]
  exact ⟨⟨_, rfl, ⟨_, _, _, rfl⟩, fun h => by cases h⟩, hb⟩
theorem nb_ok {fs : List Ft} {f : Ft} {w w' : World} {va : Value} (h : wrg fs f = none) (hv : ∃ ua na ca, va = .slice ua na ca) (ho : w'.ownsRow (w.heap.size + 2) 3 1 va (nmd fs f).length (natV (nmd fs f))) (hb : Below w.heap.size w w') : NbAns fs f w (.returned (.tuple #[va, .string ⟨#[]⟩, .int .i64 0])) w' := by
  unfold NbAns
  rw [h]
  exact ⟨⟨_, rfl, hv, fun _ => ho⟩, hb⟩
set_option maxRecDepth 100000 in
set_option maxHeartbeats 4000000 in
theorem namedP_any (u u3 u4 : Option Addr) (p po n cu b n3 c3 n4 c4 : Nat) (fs : List Ft) (f : Ft) (w : World) (hl : fs.length = n) (hn : n ≤ 4096) (hu : SlG ftc 15 w u p po fs) (hm : MapOf w b fs n) (htw : twi fs = none) (hs : f.on.size ≤ maxLen ∧ f.ov.size ≤ maxLen) (h1 : emp f.on = true ∨ emp f.ov = true) :
    Calls Try.prog 76 #[.agg #[.slice u n cu, .map (some b), .slice u3 n3 c3, .slice u4 n4 c4], ftv f] w (NbAns fs f w) := by
  obtain ⟨iI, hi, hz0, hz1, hz2⟩ := info_parts info3
  obtain ⟨s, o, v, k, d, x0, y0, z0, x1, y1, z1, ct, dx, dy, dz⟩ := f
  have htk : fs.take n = fs := List.take_of_length_le (by omega)
  have hlook := fun W (h : MapOf W b fs n) (t : ByteArray) (ht : t.size ≤ maxLen) => h.look (by omega) (fun j g _ hg => twi_none' htw j g hg) t ht
  rw [htk] at hlook
  have HB := hide (ba (ba (Below.refl w.heap.size w) (.cells #[.slice u n cu, .map (some b), .slice u3 n3 c3, .slice u4 n4 c4] 99)) (.cells #[.string s, .string o, .string v, .int .i64 k, .int .i64 d, .int .i64 x0, .int .i64 y0, .int .i64 z0, .int .i64 x1, .int .i64 y1, .int .i64 z1, .int .i64 ct, .int .i64 dx, .int .i64 dy, .int .i64 dz] 57))
  have hmw := hm.bel (ba (ba (Below.refl w.heap.size w) (.cells #[.slice u n cu, .map (some b), .slice u3 n3 c3, .slice u4 n4 c4] 99)) (.cells #[.string s, .string o, .string v, .int .i64 k, .int .i64 d, .int .i64 x0, .int .i64 y0, .int .i64 z0, .int .i64 x1, .int .i64 y1, .int .i64 z1, .int .i64 ct, .int .i64 dx, .int .i64 dy, .int .i64 dz] 57))
  have lo := hlook _ hmw o hs.1
  have lv := hlook _ hmw v hs.2
  have HU := hide (hu.bel (ba (ba (Below.refl w.heap.size w) (.cells #[.slice u n cu, .map (some b), .slice u3 n3 c3, .slice u4 n4 c4] 99)) (.cells #[.string s, .string o, .string v, .int .i64 k, .int .i64 d, .int .i64 x0, .int .i64 y0, .int .i64 z0, .int .i64 x1, .int .i64 y1, .int .i64 z1, .int .i64 ct, .int .i64 dx, .int .i64 dy, .int .i64 dz] 57)))
  have HL := hide hl
  clear hlook hmw hm htw hs hu htk hl
  have hwr : wrg fs ⟨s, o, v, k, d, x0, y0, z0, x1, y1, z1, ct, dx, dy, dz⟩ = if emp o = false ∧ findN fs o = none then some o else if emp v = false then (match findN fs v with | none => some v | some q => if (fs.getD q ft0).kd = 3 ∨ emp (fs.getD q ft0).on = false then some v else none) else none := rfl
  have hnm : nmd fs ⟨s, o, v, k, d, x0, y0, z0, x1, y1, z1, ct, dx, dy, dz⟩ = (if emp o then [] else [(findN fs o).getD 0]) ++ (if emp v then [] else [(findN fs v).getD 0]) := rfl
  simp only at h1
  by_cases eo : o.toList = []
  · have eo' : (o.toList == []) = true := by simp [eo]
    have c1 : emp o = true := by rw [emp_l]; exact eo'
    rw [if_neg (by rw [c1]; simp)] at hwr
    rw [if_pos c1] at hnm
    by_cases ev : v.toList = []
    · have ev' : (v.toList == []) = true := by simp [ev]
      have c2 : emp v = true := by rw [emp_l]; exact ev'
      rw [if_neg (by rw [c2]; simp)] at hwr
      rw [if_pos c2] at hnm
      have HWR := hide hwr
      have HNM := hide hnm
      clear c1 c2 h1 lo lv hwr hnm
      unfold ftv
      go_enter Try.func76, Try.ntmps76
      go_wp2_with fail
      refine bodyPost_ret (v := .tuple #[.slice none 0 0, .string ⟨#[]⟩, .int .i64 0]) (by simp [results, Try.results76, go_sem]; done) rfl ?_
      exact nb_ok (unhide HWR) ⟨_, _, _, rfl⟩ (by rw [unhide HNM]; exact own_nil _ _ _ _) (unhide HB)
    · have ev' : (v.toList == []) = false := by simpa using ev
      have c2 : emp v = false := by rw [emp_l]; exact ev'
      rw [if_pos c2] at hwr
      rw [if_neg (by rw [c2]; simp)] at hnm
      clear c1 c2 h1 lo
      cases hf : findN fs v with
      | none =>
        rw [hf] at lv hwr
        have HWR := hide hwr
        simp only [Option.isSome_none] at lv
        clear hf hwr hnm
        unfold ftv
        go_enter Try.func76, Try.ntmps76
        go_wp2_with fail
        go_quiet (fail)
        go_wp2_with fail
        refine bodyPost_ret (v := .tuple #[.slice none 0 0, .string v, .int .i64 6]) (by simp [results, Try.results76, go_sem]; done) rfl ?_
        exact nb_bad (unhide HWR) ((unhide HB).trans ⟨rfl, rfl, rfl, Nat.le_refl _, fun _ _ => rfl⟩)
      | some q =>
        have hz : findZ fs v = (q : Int) := by unfold findZ; rw [hf]
        rw [hf, hz] at lv
        rw [hf] at hwr hnm
        simp only [Option.isSome_some] at lv
        obtain ⟨g, hg, _⟩ := findN_at hf
        have hq : (q : Int) < (n : Int) := by have := findN_lt hf; have := unhide HL; omega
        have hq0 : (0 : Int) ≤ (q : Int) := by omega
        have hqn : q < n := by omega
        simp only [List.getD_eq_getElem?_getD, hg, Option.getD_some] at hwr hnm
        have HNM := hide hnm
        obtain ⟨rfl, pw, hc⟩ := (unhide HU).at hg
        have k1 := hc 1 (.string g.on) rfl
        have k3 := hc 3 (.int .i64 g.kd) rfl
        clear hc hf hg hz hnm
        by_cases q3 : g.kd = 3
        · rw [if_pos (.inl q3)] at hwr
          have HWR := hide hwr
          have q3' : (g.kd == 3) = true := by simp [q3]
          clear q3 hwr
          unfold ftv
          go_enter Try.func76, Try.ntmps76
          go_wp2_with fail
          go_quiet (fail)
          go_wp2_with fail
          refine bodyPost_ret (v := .tuple #[.slice none 0 0, .string v, .int .i64 6]) (by simp [results, Try.results76, go_sem]; done) rfl ?_
          exact nb_bad (unhide HWR) ((unhide HB).trans ⟨rfl, rfl, rfl, Nat.le_refl _, fun _ _ => rfl⟩)
        have q3' : (g.kd == 3) = false := by simpa using q3
        by_cases q4 : g.on.toList = []
        · have q4' : (g.on.toList == []) = true := by simp [q4]
          rw [if_neg (by rw [emp_l, q4']; simp [q3])] at hwr
          have HWR := hide hwr
          clear hwr
          unfold ftv
          go_enter Try.func76, Try.ntmps76
          go_wp2_with (at_builtin; refine unhide ?_)
          refine hide ?_
          refine wpList_append_own _ rfl _ _ 94 rfl (w.heap.size + 2) 3 iI _ 1 8 Try.underlying94 hi hz0 hz1 hz2 rfl (by decide) (.slice none 0 0) 0 [] rfl (own_nil _ _ _ _) _ 1 1 (natV [q]) rfl rfl (by first | exact news_cells _ _ (by simp) | exact news_cells _ _ rfl) (by intro u hu; simp only [natV, List.map_cons, List.map_nil, List.mem_singleton] at hu; subst hu; rfl) (by unfold maxLen; omega) (by omega) (by simp) ?_
          intro v' w1 hown' hgrow _
          have hbw : Below (w.heap.size + 2) ((w.alloc (.cells #[.slice (some ⟨p, po, none⟩) n cu, .map (some b), .slice u3 n3 c3, .slice u4 n4 c4] 99)).alloc (.cells #[.string s, .string o, .string v, .int .i64 k, .int .i64 d, .int .i64 x0, .int .i64 y0, .int .i64 z0, .int .i64 x1, .int .i64 y1, .int .i64 z1, .int .i64 ct, .int .i64 dx, .int .i64 dy, .int .i64 dz] 57)) w1 := (ba (Below.refl _ _) (.cells (natV [q]).toArray 3) |>.mono (by simp)).grown hgrow (by simp) (fun g hg => by cases hg)
          have HO2 := hide hown'
          have HB2 := hide ((unhide HB).trans (hbw.mono (by omega)))

          obtain ⟨ua, ca, rfl, _⟩ := own_form hown'
          clear hown' hgrow hbw
          go_wp2_with fail
          refine bodyPost_ret (v := .tuple #[.slice ua (0 + 1) ca, .string ⟨#[]⟩, .int .i64 0]) (by simp [results, Try.results76, go_sem]; done) rfl ?_
          exact nb_ok (unhide HWR) ⟨_, _, _, rfl⟩ (by rw [unhide HNM]; exact unhide HO2) (unhide HB2)
        · have q4' : (g.on.toList == []) = false := by simpa using q4
          rw [if_pos (by rw [emp_l, q4']; simp)] at hwr
          have HWR := hide hwr
          clear hwr
          unfold ftv
          go_enter Try.func76, Try.ntmps76
          go_wp2_with fail
          go_quiet (fail)
          go_wp2_with fail
          refine bodyPost_ret (v := .tuple #[.slice none 0 0, .string v, .int .i64 6]) (by simp [results, Try.results76, go_sem]; done) rfl ?_
          exact nb_bad (unhide HWR) ((unhide HB).trans ⟨rfl, rfl, rfl, Nat.le_refl _, fun _ _ => rfl⟩)
  · have eo' : (o.toList == []) = false := by simpa using eo
    have c1 : emp o = false := by rw [emp_l]; exact eo'
    have c2 : emp v = true := by
      rcases h1 with h | h
      · rw [c1] at h; cases h
      · exact h
    have ev' : (v.toList == []) = true := by rw [← emp_l]; exact c2
    have ev : v.toList = [] := by simpa using ev'
    rw [if_neg (by rw [c1]; simp), if_pos c2] at hnm
    clear h1 lv
    cases hf : findN fs o with
    | none =>
      rw [if_pos ⟨c1, hf⟩] at hwr
      rw [hf] at lo
      have HWR := hide hwr
      simp only [Option.isSome_none] at lo
      clear hf hwr hnm c1 c2
      unfold ftv
      go_enter Try.func76, Try.ntmps76
      go_wp2_with fail
      go_quiet (fail)
      go_wp2_with fail
      refine bodyPost_ret (v := .tuple #[.slice none 0 0, .string o, .int .i64 6]) (by simp [results, Try.results76, go_sem]; done) rfl ?_
      exact nb_bad (unhide HWR) ((unhide HB).trans ⟨rfl, rfl, rfl, Nat.le_refl _, fun _ _ => rfl⟩)
    | some q =>
      rw [if_neg (by rw [hf]; simp), if_neg (by rw [c2]; simp)] at hwr
      have hz : findZ fs o = (q : Int) := by unfold findZ; rw [hf]
      rw [hf, hz] at lo
      rw [hf] at hnm
      simp only [Option.isSome_some] at lo
      have HWR := hide hwr
      have HNM := hide hnm
      clear hf hz hwr hnm c1 c2
      unfold ftv
      go_enter Try.func76, Try.ntmps76
      go_wp2_with (at_builtin; refine unhide ?_)
      refine hide ?_
      refine wpList_append_own _ rfl _ _ 94 rfl (w.heap.size + 2) 3 iI _ 1 8 Try.underlying94 hi hz0 hz1 hz2 rfl (by decide) (.slice none 0 0) 0 [] rfl (own_nil _ _ _ _) _ 1 1 (natV [q]) rfl rfl (by first | exact news_cells _ _ (by simp) | exact news_cells _ _ rfl) (by intro u hu; simp only [natV, List.map_cons, List.map_nil, List.mem_singleton] at hu; subst hu; rfl) (by unfold maxLen; omega) (by omega) (by simp) ?_
      intro v' w1 hown' hgrow _
      have hbw : Below (w.heap.size + 2) ((w.alloc (.cells #[.slice u n cu, .map (some b), .slice u3 n3 c3, .slice u4 n4 c4] 99)).alloc (.cells #[.string s, .string o, .string v, .int .i64 k, .int .i64 d, .int .i64 x0, .int .i64 y0, .int .i64 z0, .int .i64 x1, .int .i64 y1, .int .i64 z1, .int .i64 ct, .int .i64 dx, .int .i64 dy, .int .i64 dz] 57)) w1 := (ba (Below.refl _ _) (.cells (natV [q]).toArray 3) |>.mono (by simp)).grown hgrow (by simp) (fun g hg => by cases hg)
      have HO2 := hide hown'
      have HB2 := hide ((unhide HB).trans (hbw.mono (by omega)))
      have y2 := keepN hbw (b := w.heap.size + 1) (o := 2) (v := .string v) (by simp [go_sem]) (by omega)
      obtain ⟨ua, ca, rfl, _⟩ := own_form hown'
      clear hown' hgrow hbw
      go_wp2_with fail
      refine bodyPost_ret (v := .tuple #[.slice ua (0 + 1) ca, .string ⟨#[]⟩, .int .i64 0]) (by simp [results, Try.results76, go_sem]; done) rfl ?_
      exact nb_ok (unhide HWR) ⟨_, _, _, rfl⟩ (by rw [unhide HNM]; exact unhide HO2) (unhide HB2)
end Go.Proofs.Ytkkmikgeppkhiaa
