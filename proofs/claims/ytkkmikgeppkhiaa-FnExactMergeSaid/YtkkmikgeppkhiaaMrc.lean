/-
  The program's first fault of versions. The model's edits. What is applied, plain. The sorted names of a map. slices.Sort of a row of texts of one's own. The program's names that clash. What is merged, plain: the program's way. The program's edits. The program's Apply. The model's Apply. What is merged, plain: the model's way. What is merged, plain: both ways are one.
-/
import Derived.Test.YtkkmikgeppkhiaaFoP
import Derived.Test.YtkkmikgeppkhiaaMrb
import Derived.Test.YtkkmikgeppkhiaaMra
import Derived.Test.YtkkmikgeppkhiaaIterP
namespace Go.Proofs.Ytkkmikgeppkhiaa
open Go.ChangeShapes Go.WideShapes Go.ChangeAt Go.RowKit
set_option linter.unusedVariables false
set_option linter.unusedSimpArgs false

def fss (ls : List Ls) : List (List Ft) := ls.map Ls.fs
theorem Vg.app : ∀ {ls : List (List Ft)} {ms : List (List Ft)} {c : Int}, (∀ l ∈ ls, ∃ ab, Chk l 0 ab) → Vg ms c → Vg (ls ++ ms) c
  | [], ms, c, _, h => h
  | l :: ls, ms, c, h, k => by
    obtain ⟨ab, hc⟩ := h l (by simp)
    exact ⟨0, ab, hc, .inl ⟨rfl, Vg.app (fun l hl => h l (by simp [hl])) k⟩⟩
theorem vg_nil : Vg [] 0 := rfl
theorem vg_at {ls : List Ls} {i : Nat} {l : Ls} (hi : ls[i]? = some l) (h : ∀ j m, j < i → ls[j]? = some m → ∃ ab, Chk m.fs 0 ab) {c : Int} {ab : List ByteArray} (hc : Chk l.fs c ab) (h0 : c ≠ 0) : Vg (fss ls) c := by
  have hlt := (List.getElem?_eq_some_iff.1 hi).1
  have e : fss ls = fss (ls.take i) ++ (l.fs :: fss (ls.drop (i + 1))) := by
    unfold fss
    rw [← List.map_cons, ← List.map_append]
    congr 1
    have := List.take_append_drop i ls
    rw [List.drop_eq_getElem_cons hlt] at this
    obtain ⟨_, e2⟩ := List.getElem?_eq_some_iff.1 hi
    rw [e2] at this
    exact this.symm
  rw [e]
  refine Vg.app ?_ ⟨c, ab, hc, .inr ⟨h0, rfl⟩⟩
  intro x hx
  obtain ⟨m, hm, rfl⟩ := List.mem_map.1 hx
  obtain ⟨j, hj, rfl⟩ := List.mem_take_iff_getElem.1 hm
  exact h j _ (by omega) (List.getElem?_eq_getElem (by omega))
theorem vg_all {ls : List Ls} (h : ∀ (j : Nat) m, ls[j]? = some m → ∃ ab, Chk m.fs 0 ab) : Vg (fss ls) 0 := by
  have := Vg.app (ls := fss ls) (ms := []) (c := 0) (fun x hx => by
    obtain ⟨m, hm, rfl⟩ := List.mem_map.1 hx
    obtain ⟨j, hj, rfl⟩ := List.getElem_of_mem hm
    exact h j _ (List.getElem?_eq_getElem hj)) vg_nil
  rwa [List.append_nil] at this
/-- a list that a call is handed, whatever it holds -/
structure Lok (w : World) (l : Ls) : Prop where
  le : l.fs.length ≤ 1048576
  cap : l.fs.length ≤ l.cu
  at_ : SlG ftc 15 w l.u l.p l.po l.fs
  size : ∀ f ∈ l.fs, f.nm.size ≤ maxLen ∧ f.on.size ≤ maxLen ∧ f.ov.size ≤ maxLen
theorem Lok.bel {w W : World} {l : Ls} (h : Lok w l) (hb : Below w.heap.size w W) : Lok W l := ⟨h.le, h.cap, h.at_.bel hb, h.size⟩
set_option maxRecDepth 100000 in
set_option maxHeartbeats 4000000 in
theorem codes_any (g o n cu : Nat) (ls : List Ls) (w : World) (hl : ls.length = n) (hn : n ≤ 3) (hok : ∀ l ∈ ls, Lok w l) (ha : LsAt w g o ls) :
    Calls Try.prog 30 #[.slice (some ⟨g, o, none⟩) n cu] w fun e w' => (∃ c, e = .returned (.int .i64 c) ∧ Vc (fss ls) c) ∧ Below w.heap.size w w' := by
  have HA := hide ha
  have HL := hide hl
  have HOK := hide (fun i l (h : ls[i]? = some l) => (hok l (List.mem_of_getElem? h)))
  clear hl hok ha
  go_enter Try.func30, Try.ntmps30
  go_wp2_with fail
  go_loopw [12] (fun s W => ∃ (i : Nat), s = .int .i64 (i : Int) ∧ i ≤ n ∧ (∀ j m, j < i → ls[j]? = some m → m.fs.length ≤ 4096) ∧ W = w) (fun s _ => n - (intOf s).toNat)
  case atStart => exact ⟨0, rfl, by omega, fun j m hj => by omega, rfl⟩
  case round =>
    obtain ⟨i, rfl, hi, hb, hw⟩ := hrel
    subst hw
    have HBD := hide hb
    clear hb
    by_cases h : i < n
    · have iz : decide ((i : Int) < (n : Int)) = true := decide_eq_true (by omega)
      have i1 : (i : Int) < (n : Int) := by omega
      have i0 : (0 : Int) ≤ (i : Int) := by omega
      obtain ⟨l, hx⟩ := get_some (unhide HL) h
      have HX := hide hx
      have k0 := (unhide HA).2 i l hx
      simp only [Ls.v] at k0
      have hq : ∃ q, l.fs.length = q := ⟨_, rfl⟩
      obtain ⟨q, hq⟩ := hq
      have HQ := hide hq
      rw [hq] at k0
      clear hx hq
      by_cases hlong : 4096 < q
      · have d1 : decide ((4096 : Int) < (q : Int)) = true := decide_eq_true (by omega)
        have d2 : decide ((q : Int) > 4096) = true := decide_eq_true (by omega)
        go_wp2_with fail
        go_ret
        exact ⟨⟨2, rfl, .inl ⟨⟨l.fs, List.mem_map.2 ⟨l, List.mem_of_getElem? (unhide HX), rfl⟩, by rw [unhide HQ]; exact hlong⟩, rfl⟩⟩, Below.refl _ _⟩
      · have d1 : decide ((4096 : Int) < (q : Int)) = false := decide_eq_false (by omega)
        have d2 : decide ((q : Int) > 4096) = false := decide_eq_false (by omega)
        go_wp2_with fail
        go_roundw
        case rel =>
          refine ⟨i + 1, by simp, h, ?_, by first | rfl | trivial⟩
          intro j m hj hm
          by_cases e : j = i
          · subst e
            rw [unhide HX] at hm
            cases hm
            rw [unhide HQ]; omega
          · exact unhide HBD j m (by omega) hm
        case measure => simp only [intOf]; omega
    · have iz : decide ((i : Int) < (n : Int)) = false := decide_eq_false (by omega)
      have i1 : ¬ (i : Int) < (n : Int) := by omega
      have HLE := hide (fun l (hl : l ∈ fss ls) => (by
        obtain ⟨m, hm, rfl⟩ := List.mem_map.1 hl
        obtain ⟨j, hj, rfl⟩ := List.getElem_of_mem hm
        exact unhide HBD j _ (by have := unhide HL; omega) (List.getElem?_eq_getElem hj) : l.length ≤ 4096))
      go_wp2_with fail
      go_loopw [22] (fun s W => ∃ (i : Nat), s = .int .i64 (i : Int) ∧ i ≤ n ∧ (∀ j m, j < i → ls[j]? = some m → ∃ ab, Chk m.fs 0 ab) ∧ Below wr.heap.size wr W) (fun s _ => n - (intOf s).toNat)
      case atStart => exact ⟨0, rfl, by omega, fun j m hj => by omega, Below.refl _ _⟩
      case round =>
        obtain ⟨i, rfl, hi, hb, hw⟩ := hrel
        have HCK := hide hb
        have HW := hide hw
        clear hb hw
        rename_i wq _ _ _
        by_cases h : i < n
        · have iz : decide ((i : Int) < (n : Int)) = true := decide_eq_true (by omega)
          have i1 : (i : Int) < (n : Int) := by omega
          have i0 : (0 : Int) ≤ (i : Int) := by omega
          obtain ⟨l, hx⟩ := get_some (unhide HL) h
          have HX := hide hx
          have k0 := ((unhide HA).bel (unhide HW)).2 i l hx
          have hk := (unhide HOK i l hx).bel (unhide HW)
          simp only [Ls.v] at k0
          have hq : ∃ q, l.fs.length = q := ⟨_, rfl⟩
          obtain ⟨q, hq⟩ := hq
          have HFO := hide (orderOfP_any l.u l.p l.po q l.cu l.fs _ hq (by rw [← hq]; exact hk.le) hk.size hk.at_)
          rw [hq] at k0
          clear hx hq hk
          go_wp2_with fail
          refine (unhide HFO).mono ?_
          rintro e W1 ⟨⟨v1, c, v3, ab, rfl, hck, _, _⟩, hb1⟩
          have HC := hide hck
          have HW1 := hide (bc (unhide HW) hb1)
          clear hck hb1
          by_cases hc : c = 0
          · subst hc
            go_wp2_with fail
            go_roundw
            case rel =>
              refine ⟨i + 1, by simp, h, ?_, unhide HW1⟩
              intro j m hj hm
              by_cases e : j = i
              · subst e
                rw [unhide HX] at hm
                cases hm
                exact ⟨ab, unhide HC⟩
              · exact unhide HCK j m (by omega) hm
            case measure => simp only [intOf]; omega
          · have c0 : (c != 0) = true := by simpa using hc
            have HC0 := hide hc
            clear hc
            go_wp2_with fail
            go_ret
            exact ⟨⟨c, rfl, .inr ⟨unhide HLE, vg_at (unhide HX) (unhide HCK) (unhide HC) (unhide HC0)⟩⟩, unhide HW1⟩
        · have iz : decide ((i : Int) < (n : Int)) = false := decide_eq_false (by omega)
          have i1 : ¬ (i : Int) < (n : Int) := by omega
          go_wp2_with fail
          go_ret
          exact ⟨⟨0, rfl, .inr ⟨unhide HLE, vg_all fun j m hm => unhide HCK j m (by have := (List.getElem?_eq_some_iff.1 hm).1; have := unhide HL; omega) hm⟩⟩, unhide HW⟩
end Go.Proofs.Ytkkmikgeppkhiaa

namespace Go.Proofs.Ytkkmikgeppkhiaa
open Go.ChangeShapes Go.WideShapes Go.ChangeAt Go.RowKit
set_option linter.unusedVariables false
set_option linter.unusedSimpArgs false

theorem info54 : (Try.prog.info? 54).map (fun i => (i.zero, i.size, i.bytes)) = some (some (.agg #[.int .i64 0, .string ⟨#[]⟩]), 2, 24) := by kernel_rfl
theorem edc_one (es : List (Int × ByteArray)) : ∀ u ∈ flatG edc es, u.oneCell' = true := by
  induction es with
  | nil => intro u hu; cases hu
  | cons a l ih =>
    intro u hu
    simp only [flatG, edc, List.cons_append, List.nil_append, List.mem_cons] at hu
    rcases hu with rfl | rfl | hu
    · rfl
    · rfl
    · exact ih u hu
theorem own_ed {w W2 w1 : World} {B n : Nat} {v v' : Value} {l : List (Int × ByteArray)} {k : Int} {s : ByteArray} (hb : Below B w W2) (hB : B ≤ W2.heap.size) (h : w.ownsRow B 54 2 v n (flatG edc l)) (h' : w1.ownsRow B 54 2 v' (n + 1) (flatG edc l ++ [.int .i64 k, .string s])) (hg : W2.grownBy w1 v.ownBlock) :
    w1.ownsRow B 54 2 v' (n + 1) (flatG edc (l ++ [(k, s)])) ∧ Below B w w1 := by
  have := own_moreV hb hB h h' hg
  rw [flatG_append]
  exact this
/-- what a call of Edits ends with -/
def EdEnd (B L : List Ft) (w : World) (e : Ending) (w' : World) : Prop := (∃ v c es, e = .returned (.tuple #[v, .int .i64 c]) ∧ EdAns B L es c ∧ ERow w' w.heap.size v es) ∧ Below w.heap.size w w'
theorem edEnd_code {B L : List Ft} {w w' : World} {v : Value} {c : Int} (hc : Vc [B, L] c) (h0 : c ≠ 0) (hv : w'.ownsRow w.heap.size 54 2 v 0 []) (hb : Below w.heap.size w w') : EdEnd B L w (.returned (.tuple #[v, .int .i64 c])) w' :=
  ⟨⟨v, c, [], rfl, ⟨hc, by rw [if_neg h0]⟩, hv⟩, hb⟩
theorem vc2 {B L : List Ft} (hB : B.length ≤ 4096) (hL : L.length ≤ 4096) {c : Int} (h : Vg [B, L] c) : Vc [B, L] c := by
  refine .inr ⟨fun l hl => ?_, h⟩
  simp only [List.mem_cons, List.not_mem_nil, or_false] at hl
  rcases hl with rfl | rfl
  · exact hB
  · exact hL
theorem vg_two {B L : List Ft} {c : Int} {ab ab' : List ByteArray} (h : Chk B 0 ab) (k : Chk L c ab') : Vg [B, L] c := by
  refine ⟨0, ab, h, .inl ⟨rfl, ?_⟩⟩
  by_cases e : c = 0
  · subst e; exact ⟨0, ab', k, .inl ⟨rfl, rfl⟩⟩
  · exact ⟨c, ab', k, .inr ⟨e, rfl⟩⟩
theorem vg_fst {B : List Ft} {ls : List (List Ft)} {c : Int} {ab : List ByteArray} (h : Chk B c ab) (e : c ≠ 0) : Vg (B :: ls) c := ⟨c, ab, h, .inr ⟨e, rfl⟩⟩
theorem fm_take {α β : Type} {fs : List α} {k : Nat} {f : α} (g : α → Option β) (h : fs[k]? = some f) : (fs.take (k + 1)).filterMap g = (fs.take k).filterMap g ++ (g f).toList := by
  rw [List.take_add_one, h, Option.toList_some, List.filterMap_append]
  cases e : g f <;> simp [e]
set_option maxRecDepth 100000 in
set_option maxHeartbeats 8000000 in
theorem editsM_any (u1 : Option Addr) (p1 o1 n1 c1 : Nat) (B : List Ft) (u2 : Option Addr) (p2 o2 n2 c2 : Nat) (L : List Ft) (w : World) (hl1 : B.length = n1) (hl2 : L.length = n2) (h1 : Lok w ⟨u1, p1, o1, c1, B⟩) (h2 : Lok w ⟨u2, p2, o2, c2, L⟩) :
    Calls Try.prog 7 #[.slice u1 n1 c1, .slice u2 n2 c2] w (EdEnd B L w) := by
  obtain ⟨iE, hi, hx0, hx1, hx2⟩ := info_parts info54
  have HL1 := hide hl1
  have HL2 := hide hl2
  have H1 := hide h1
  have H2 := hide h2
  clear hl1 hl2 h1 h2
  have END0 := hide (fun (W : World) (c : Int) (hc : Vc [B, L] c) (h0 : c ≠ 0) (hb : Below w.heap.size w W) => (edEnd_code hc h0 (own_made W 54 w.heap.size 2 hb.size _ rfl) (ba hb _) : EdEnd B L w (.returned (.tuple #[.slice (some ⟨W.heap.size, 0, none⟩) 0 0, .int .i64 c])) (W.alloc (.cells #[] 54))))
  by_cases hlo : 4096 < n1 ∨ 4096 < n2
  · have HV : Hid (Vc [B, L] 2) := hide (.inl ⟨by
      rcases hlo with h | h
      · exact ⟨B, by simp, by rw [unhide HL1]; exact h⟩
      · exact ⟨L, by simp, by rw [unhide HL2]; exact h⟩, rfl⟩)
    by_cases ha : 4096 < n1
    · have d1 : decide ((4096 : Int) < (n1 : Int)) = true := decide_eq_true (by omega)
      have d2 : decide ((n1 : Int) > 4096) = true := decide_eq_true (by omega)
      clear hlo
      go_enter Try.func7, Try.ntmps7
      go_wp2_with fail
      refine bodyPost_ret (v := .tuple #[.slice (some ⟨w.heap.size, 0, none⟩) 0 0, .int .i64 2]) (by simp [results, Try.results7, go_sem]; done) rfl ?_
      exact unhide END0 _ 2 (unhide HV) (by decide) (Below.refl _ _)
    · have hb : 4096 < n2 := by omega
      have d1 : decide ((4096 : Int) < (n1 : Int)) = false := decide_eq_false (by omega)
      have d2 : decide ((n1 : Int) > 4096) = false := decide_eq_false (by omega)
      have d3 : decide ((4096 : Int) < (n2 : Int)) = true := decide_eq_true (by omega)
      have d4 : decide ((n2 : Int) > 4096) = true := decide_eq_true (by omega)
      clear hlo
      go_enter Try.func7, Try.ntmps7
      go_wp2_with fail
      refine bodyPost_ret (v := .tuple #[.slice (some ⟨w.heap.size, 0, none⟩) 0 0, .int .i64 2]) (by simp [results, Try.results7, go_sem]; done) rfl ?_
      exact unhide END0 _ 2 (unhide HV) (by decide) (Below.refl _ _)
  have a1 : decide ((4096 : Int) < (n1 : Int)) = false := decide_eq_false (by omega)
  have a2 : decide ((n1 : Int) > 4096) = false := decide_eq_false (by omega)
  have a3 : decide ((4096 : Int) < (n2 : Int)) = false := decide_eq_false (by omega)
  have a4 : decide ((n2 : Int) > 4096) = false := decide_eq_false (by omega)
  have HLE := hide (And.intro (by rw [unhide HL1]; omega : B.length ≤ 4096) (by rw [unhide HL2]; omega : L.length ≤ 4096))
  clear hlo
  have HC1 := hide (codeM_any u1 p1 o1 n1 c1 B w (unhide HL1) (by have := (unhide H1).le; rw [← unhide HL1]; exact this) (by have := (unhide H1).cap; rw [← unhide HL1]; exact this) (unhide H1).size (unhide H1).at_)
  have HC2 := hide (fun W (hb : Below w.heap.size w W) => codeM_any u2 p2 o2 n2 c2 L W (unhide HL2) (by have := (unhide H2).le; rw [← unhide HL2]; exact this) (by have := (unhide H2).cap; rw [← unhide HL2]; exact this) (unhide H2).size ((unhide H2).at_.bel hb))
  go_enter Try.func7, Try.ntmps7
  go_wp2_with fail
  refine (unhide HC1).mono ?_
  rintro e W1 ⟨⟨c, ab, rfl, hck⟩, hb1⟩
  have HK1 := hide hck
  have HB1 := hide hb1
  clear hck hb1
  by_cases hc : c = 0
  rotate_left
  · have c0 : (c != 0) = true := by simpa using hc
    have HC0 := hide hc
    clear hc
    go_wp2_with fail
    refine bodyPost_ret (v := .tuple #[.slice (some ⟨W1.heap.size, 0, none⟩) 0 0, .int .i64 c]) (by simp [results, Try.results7, go_sem]; done) rfl ?_
    exact unhide END0 _ c (vc2 (unhide HLE).1 (unhide HLE).2 (vg_fst (unhide HK1) (unhide HC0))) (unhide HC0) (unhide HB1)
  subst hc
  go_wp2_with fail
  refine (unhide HC2 _ (unhide HB1)).mono ?_
  rintro e W2 ⟨⟨c, ab', rfl, hck⟩, hb2⟩
  have HK2 := hide hck
  have HB2 := hide (bc (unhide HB1) hb2)
  clear hck hb2
  have HVC := hide (vc2 (unhide HLE).1 (unhide HLE).2 (vg_two (unhide HK1) (unhide HK2)))
  by_cases hc : c = 0
  rotate_left
  · have c0 : (c != 0) = true := by simpa using hc
    have HC0 := hide hc
    clear hc
    go_wp2_with fail
    refine bodyPost_ret (v := .tuple #[.slice (some ⟨W2.heap.size, 0, none⟩) 0 0, .int .i64 c]) (by simp [results, Try.results7, go_sem]; done) rfl ?_
    exact unhide END0 _ c (unhide HVC) (unhide HC0) (unhide HB2)
  subst hc
  have hF1 := (unhide HK1).zero.1
  have hF2 := (unhide HK2).zero.1
  have hn1 : n1 ≤ 30 := by rw [← unhide HL1]; exact hF1.len
  have hn2 : n2 ≤ 30 := by rw [← unhide HL2]; exact hF2.len
  clear hF1 hF2
  have HLS : Hid (LsAt (W2.alloc (.cells #[.slice u1 n1 c1, .slice u2 n2 c2] 27)) W2.heap.size 0 [⟨u1, p1, o1, c1, B⟩, ⟨u2, p2, o2, c2, L⟩]) := hide ⟨by simp, fun i l hi => by
    match i, hi with
    | 0, hi => cases hi; show _ = some (Value.slice u1 B.length c1); rw [unhide HL1]; simp [go_sem]
    | 1, hi => cases hi; show _ = some (Value.slice u2 L.length c2); rw [unhide HL2]; simp [go_sem]⟩
  have HNM := hide (namesOfM_any W2.heap.size 0 2 2 [⟨u1, p1, o1, c1, B⟩, ⟨u2, p2, o2, c2, L⟩] (W2.alloc (.cells #[.slice u1 n1 c1, .slice u2 n2 c2] 27)) rfl (by omega) (by
      intro l hl
      simp only [List.mem_cons, List.not_mem_nil, or_false] at hl
      rcases hl with rfl | rfl
      · show B.length ≤ 30; rw [unhide HL1]; exact hn1
      · show L.length ≤ 30; rw [unhide HL2]; exact hn2) (by
      intro l hl
      simp only [List.mem_cons, List.not_mem_nil, or_false] at hl
      rcases hl with rfl | rfl
      · exact ⟨(unhide H1).le, ((unhide H1).at_.bel (unhide HB2)).bel (ba (Below.refl _ _) _)⟩
      · exact ⟨(unhide H2).le, ((unhide H2).at_.bel (unhide HB2)).bel (ba (Below.refl _ _) _)⟩) (unhide HLS))
  rw [nms2] at HNM
  have HB3 := hide (ba (unhide HB2) (.cells #[.slice u1 n1 c1, .slice u2 n2 c2] 27))
  go_wp2_with fail
  refine (unhide HNM).mono ?_
  rintro e W3 ⟨v, rfl, hs, hb⟩
  have HN0 := hide (srt_nms (B.map Ft.nm ++ L.map Ft.nm))
  have HB4 := hide (bc (unhide HB3) hb)
  have hst : ∃ q, (srt (B.map Ft.nm ++ L.map Ft.nm)).length = q ∧ q ≤ 1048576 := ⟨_, rfl, by
    have := foldl_ins_len (B.map Ft.nm ++ L.map Ft.nm) []
    unfold srt
    simp only [List.length_nil, List.length_append, List.length_map, unhide HL1, unhide HL2] at this
    omega⟩
  obtain ⟨q, hq, hq1⟩ := hst
  obtain ⟨uS, cS, rfl, _⟩ := own_form hs
  have hSt := (SRow.stAt hs).2
  rw [hq]
  have HQ := hide hq
  have HST := hide hSt
  clear hs hb hq hSt
  generalize srt (B.map Ft.nm ++ L.map Ft.nm) = ns at *
  go_wp2_with fail
  go_loopw [9, 10] (fun v s W => ∃ (i m : Nat), s = .int .i64 (i : Int) ∧ i ≤ q ∧ m ≤ i ∧ ((ns.take i).filterMap (edF B L)).length = m ∧ W.ownsRow W3.heap.size 54 2 v m (flatG edc ((ns.take i).filterMap (edF B L))) ∧ Below W3.heap.size W3 W) (fun _ s _ => q - (intOf s).toNat)
  case atStart => exact ⟨0, 0, rfl, by omega, by omega, rfl, own_made W3 54 W3.heap.size 2 (Nat.le_refl _) _ rfl, ba (Below.refl _ _) _⟩
  case round =>
    obtain ⟨i, m, rfl, hi1, hmi, hlen, hrow, hw3⟩ := hrel
    have HR := hide hrow
    have HW := hide (bc (unhide HB4) hw3)
    have HW3 := hide hw3
    have HLN := hide hlen
    obtain ⟨ug, cg, rfl, _⟩ := own_form hrow
    clear hrow hlen hw3
    by_cases h : i < q
    · have i1 : (i : Int) < (q : Int) := by omega
      have i0 : (0 : Int) ≤ (i : Int) := Int.natCast_nonneg _
      have iz : decide ((i : Int) < (q : Int)) = true := decide_eq_true i1
      obtain ⟨s, hx⟩ := get_some (unhide HQ) h
      have hne : ns ≠ [] := by intro e; subst e; cases hx
      obtain ⟨g, o, rfl, hgl, hc⟩ := ((unhide HST).bel (unhide HW3)) hne
      have k0 := hc i s hx
      have HTK := hide (fm_take (edF B L) hx)
      have HED := hide (editM_any u1 p1 o1 n1 c1 B u2 p2 o2 n2 c2 L s wr (unhide HL1) (by omega) ((unhide H1).at_.bel (unhide HW)) (unhide HL2) (by omega) ((unhide H2).at_.bel (unhide HW)))
      have hkr := knd_range B L s
      have hef : edF B L s = if knd B L s = 0 then none else some (knd B L s, s) := rfl
      clear hx hc hne
      go_wp2_with fail
      refine (unhide HED).mono ?_
      rintro e W4 ⟨rfl, hb4⟩
      have HW4 := hide (bc (unhide HW) hb4)
      have HW34 := hide (bc (unhide HW3) hb4)
      have HR4 := hide (own_bel (unhide HR) hb4)
      have kk := keep1 hb4 k0
      have kl := cell_lt kk
      have hsz4 := hb4.size
      clear hb4 k0
      generalize knd B L s = kd at *
      by_cases hk : kd = 0
      · rw [if_pos hk] at hef
        have d1 : decide (kd > 0) = false := decide_eq_false (by omega)
        have d2 : decide ((0 : Int) < kd) = false := decide_eq_false (by omega)
        have HTK2 : Hid ((ns.take (i + 1)).filterMap (edF B L) = (ns.take i).filterMap (edF B L)) := hide (by rw [unhide HTK, hef]; simp)
        clear hef hkr hk
        go_wp2_with fail
        go_roundw
        case rel => exact ⟨i + 1, m, by simp, h, by omega, by rw [unhide HTK2, unhide HLN], by rw [unhide HTK2]; exact unhide HR4, unhide HW34⟩
        case measure => simp only [intOf]; omega
      · rw [if_neg hk] at hef
        have hkp : 0 < kd := by omega
        have d1 : decide (kd > 0) = true := decide_eq_true (by omega)
        have d2 : decide ((0 : Int) < kd) = true := decide_eq_true (by omega)
        have HTK2 : Hid ((ns.take (i + 1)).filterMap (edF B L) = (ns.take i).filterMap (edF B L) ++ [(kd, s)]) := hide (by rw [unhide HTK, hef]; rfl)
        clear hef hkr hk hkp
        go_wp2_with (at_builtin; refine unhide ?_)
        refine hide ?_
        refine wpList_append_own _ rfl _ _ 24 rfl W3.heap.size 54 iE _ 2 24 Try.underlying24 hi hx0 hx1 hx2 rfl (by decide) _ m _ rfl ((unhide HR4).alloc _) _ 1 1 [.int .i64 kd, .string s] rfl rfl (by first | exact news_cells _ _ rfl | exact news_cells _ _ (by simp)) (by intro u hu; simp at hu; rcases hu with rfl | rfl <;> rfl) (by unfold maxLen; omega) (by omega) (Nat.le_trans (unhide HW34).size (by simp)) ?_
        intro v' w1 hown' hgrow _
        have R := hide (own_ed (Below.alloc (Below.refl W3.heap.size _) (unhide HW34).size _) (Nat.le_trans (unhide HW34).size (by simp)) (unhide HR4) hown' hgrow)
        clear hown' hgrow
        go_wp2_with fail
        go_roundw
        case rel => exact ⟨i + 1, m + 1, by simp, h, by omega, by rw [unhide HTK2, List.length_append, unhide HLN]; rfl, by rw [unhide HTK2]; exact (unhide R).1, (unhide HW34).trans (unhide R).2⟩
        case measure => simp only [intOf]; omega
    · have i1 : ¬ (i : Int) < (q : Int) := by omega
      have iz : decide ((i : Int) < (q : Int)) = false := decide_eq_false i1
      have HE : Hid (ns.take i = ns) := hide (List.take_of_length_le (by rw [unhide HQ]; omega))
      go_wp2_with fail
      refine bodyPost_ret (v := .tuple #[.slice ug m cg, .int .i64 0]) (by simp [results, Try.results7, go_sem]; done) rfl ?_
      have h1 := unhide HR
      have h2 := unhide HLN
      rw [unhide HE] at h1 h2
      refine ⟨⟨_, 0, _, rfl, ⟨unhide HVC, by rw [if_pos rfl]; exact edl_of (unhide HN0)⟩, ?_⟩, unhide HW⟩
      unfold ERow
      rw [h2]
      exact own_mono h1 (unhide HB4).size
end Go.Proofs.Ytkkmikgeppkhiaa

namespace Go.Proofs.Ytkkmikgeppkhiaa
open Go.ChangeShapes Go.WideShapes Go.ChangeAt Go.RowKit
set_option linter.unusedVariables false
set_option linter.unusedSimpArgs false

def apB (L : List Ft) (ns : List ByteArray) (x : Ft) : Option Ft := if hasT ns x.nm = true then gtF L x.nm else some x
def apL (B : List Ft) (ns : List ByteArray) (x : Ft) : Bool := hasT ns x.nm && (gtF B x.nm).isNone
/-- the list of what is applied -/
def apl (B L : List Ft) (ns : List ByteArray) : List Ft := B.filterMap (apB L ns) ++ L.filter (apL B ns)
/-- an answer of Apply -/
def ApAns (B L : List Ft) (ns : List ByteArray) (out : List Ft) (c : Int) : Prop :=
  ((4096 < B.length ∨ 4096 < L.length ∨ 4096 < ns.length) ∧ c = 2 ∧ out = []) ∨
  (B.length ≤ 4096 ∧ L.length ≤ 4096 ∧ ns.length ≤ 4096 ∧ ∃ d, Vg [B, L] d ∧ ((d ≠ 0 ∧ c = d ∧ out = []) ∨ (d = 0 ∧
    (((∃ s ∈ ns, gtF B s = none ∧ gtF L s = none) ∧ c = 6 ∧ out = []) ∨ ((∀ s ∈ ns, gtF B s ≠ none ∨ gtF L s ≠ none) ∧ ∃ k ab, Chk (apl B L ns) k ab ∧ ((k ≠ 0 ∧ c = 13 ∧ out = []) ∨ (k = 0 ∧ c = 0 ∧ out = apl B L ns)))))))
theorem ApAns.uniq {B L : List Ft} {ns : List ByteArray} {o o' : List Ft} {c c' : Int} (h : ApAns B L ns o c) (k : ApAns B L ns o' c') : o = o' ∧ c = c' := by
  rcases h with ⟨h1, h2, h3⟩ | ⟨h1, h2, h3, d, hd, h4⟩
  · rcases k with ⟨_, k2, k3⟩ | ⟨k1, k2, k3, _⟩
    · exact ⟨by rw [h3, k3], by rw [h2, k2]⟩
    · omega
  · rcases k with ⟨k1, _⟩ | ⟨_, _, _, d', hd', k4⟩
    · omega
    · have e := hd.uniq hd'
      subst e
      rcases h4 with ⟨h4, h5, h6⟩ | ⟨h4, h5⟩
      · rcases k4 with ⟨_, k5, k6⟩ | ⟨k4, _⟩
        · exact ⟨by rw [h6, k6], by rw [h5, k5]⟩
        · exact (h4 k4).elim
      · rcases k4 with ⟨k4, _⟩ | ⟨_, k5⟩
        · exact (k4 h4).elim
        · rcases h5 with ⟨⟨s, hs, a1, a2⟩, h6, h7⟩ | ⟨h6, k, ab, hk, h7⟩
          · rcases k5 with ⟨_, k6, k7⟩ | ⟨k6, _⟩
            · exact ⟨by rw [h7, k7], by rw [h6, k6]⟩
            · rcases k6 s hs with q | q
              · exact (q a1).elim
              · exact (q a2).elim
          · rcases k5 with ⟨⟨s, hs, a1, a2⟩, _⟩ | ⟨_, k', ab', hk', k7⟩
            · rcases h6 s hs with q | q
              · exact (q a1).elim
              · exact (q a2).elim
            · have e := (hk.uniq hk').1
              subst e
              rcases h7 with ⟨h7, h8, h9⟩ | ⟨h7, h8, h9⟩
              · rcases k7 with ⟨_, k8, k9⟩ | ⟨k7, _⟩
                · exact ⟨by rw [h9, k9], by rw [h8, k8]⟩
                · exact (h7 k7).elim
              · rcases k7 with ⟨k7, _⟩ | ⟨_, k8, k9⟩
                · exact (k7 h7).elim
                · exact ⟨by rw [h9, k9], by rw [h8, k8]⟩
theorem ApAns.len {B L : List Ft} {ns : List ByteArray} {o : List Ft} {c : Int} (h : ApAns B L ns o c) : o.length ≤ 10000 := by
  have aux : ∀ x : List Ft, x = [] → x.length ≤ 10000 := fun x e => by rw [e]; simp
  rcases h with ⟨_, _, h3⟩ | ⟨h1, h2, h3, d, hd, h4⟩
  · exact aux _ h3
  · rcases h4 with ⟨_, _, h6⟩ | ⟨h4, h5⟩
    · exact aux _ h6
    · rcases h5 with ⟨_, _, h7⟩ | ⟨_, k, ab, hk, h7⟩
      · exact aux _ h7
      · rcases h7 with ⟨_, _, h9⟩ | ⟨_, _, h9⟩
        · exact aux _ h9
        · rw [h9]
          unfold apl
          have a1 := List.length_filterMap_le (apB L ns) B
          have a2 := List.length_filter_le (apL B ns) L
          rw [List.length_append]
          omega
theorem pr_isSome (B L : List Ft) (s : ByteArray) : (pr B L s).isSome = ((gtF B s).isSome || (gtF L s).isSome) := two_isSome _ _
theorem pr_getD (B L : List Ft) (s : ByteArray) : (pr B L s).getD p0 = ((gtF B s).getD ft0, (gtF L s).getD ft0) := by
  unfold pr two
  cases gtF B s <;> cases gtF L s <;> rfl
theorem kp_pr (B L : List Ft) (ns : List ByteArray) (s : ByteArray) : kp (pr B L) ns s = if hasT ns s = true then some ((gtF B s).getD ft0, (gtF L s).getD ft0) else none := by
  unfold kp
  rw [pr_getD]
theorem fm_congr {l : List Ft} {f g : Ft → Option Ft} (h : ∀ x ∈ l, f x = g x) : l.filterMap f = l.filterMap g := by
  induction l with
  | nil => rfl
  | cons a l ih =>
    rw [List.filterMap_cons, List.filterMap_cons, h a (by simp), ih fun x hx => h x (by simp [hx])]
/-- what the program's changes do is what is applied -/
theorem dTo_apl {B L : List Ft} (hB : ∀ f ∈ B, f ≠ ft0) (hL : ∀ f ∈ L, f ≠ ft0) (ns : List ByteArray) : dTo (kp (pr B L) ns) B L = apl B L ns := by
  unfold dTo apl
  congr 1
  · refine fm_congr fun x hx => ?_
    unfold dnB apB
    rw [kp_pr]
    cases hasT ns x.nm with
    | false => rfl
    | true =>
      simp only [if_true]
      cases e : gtF L x.nm with
      | none => simp [fE_refl]
      | some y =>
        have hy := hL y (gt_mem e).1
        simp [fE_ne hy]
  · refine List.filter_congr fun x hx => ?_
    unfold dnL apL
    rw [kp_pr]
    cases hasT ns x.nm with
    | false => rfl
    | true =>
      simp only [if_true, Bool.true_and]
      cases e : gtF B x.nm with
      | none => simp [fE_refl]
      | some y =>
        have hy := hB y (gt_mem e).1
        simp [fE_ne hy]
theorem lck_pr (B L : List Ft) (ns : List ByteArray) : lck (pr B L) ns = true ↔ ∃ s ∈ ns, gtF B s = none ∧ gtF L s = none := by
  unfold lck
  rw [List.any_eq_true]
  constructor
  · rintro ⟨s, hs, h⟩
    refine ⟨s, hs, ?_⟩
    rw [pr_isSome] at h
    cases e1 : gtF B s <;> cases e2 : gtF L s <;> simp [e1, e2] at h ⊢
  · rintro ⟨s, hs, h1, h2⟩
    exact ⟨s, hs, by rw [pr_isSome, h1, h2]; rfl⟩
theorem lck_pr_no (B L : List Ft) (ns : List ByteArray) (h : lck (pr B L) ns = false) : ∀ s ∈ ns, gtF B s ≠ none ∨ gtF L s ≠ none := by
  intro s hs
  by_cases h1 : gtF B s = none
  · right
    intro h2
    have := (lck_pr B L ns).2 ⟨s, hs, h1, h2⟩
    rw [h] at this
    cases this
  · exact .inl h1
/-- what a call of Apply ends with -/
def ApEnd (B L : List Ft) (ns : List ByteArray) (w : World) (e : Ending) (w' : World) : Prop := (∃ v c out, e = .returned (.tuple #[v, .int .i64 c]) ∧ ApAns B L ns out c ∧ w'.ownsRow w.heap.size 57 15 v out.length (flatG ftc out)) ∧ Below w.heap.size w w'
end Go.Proofs.Ytkkmikgeppkhiaa

namespace Go.Proofs.Ytkkmikgeppkhiaa
open Go.ChangeShapes Go.WideShapes Go.ChangeAt Go.RowKit Go.Maps Go.WideMaps Go.Sort Go.Shelf
set_option linter.unusedVariables false
set_option linter.unusedSimpArgs false

theorem sorts32 (m : Nat) : AnyZ.SortsIn Try.prog Try.sorted32_ren Fence.wide m :=
  ⟨fun blk off cap ss W hH hblk hsz => callsIn_wide.2 (AnyM.slices_Sort_string Try.sort54 blk off cap ss W hH hblk hsz),
   fun p cap W => callsIn_wide.2 (AnyM.slices_Sort_string_none Try.sort54 p cap W)⟩
theorem keys_any (b : Nat) (W : World) : Calls Try.prog 33 #[.map (some b)] W fun e w' => e = .returned (.func (.func 55) #[] #[.pointer (some ⟨W.heap.size, 0, none⟩)]) ∧ w' = W.alloc (.cells #[.map (some b)] 61) :=
  callsIn_wide.1 (AnyZ.keys_in Try.keys33 Fence.wide 5 trivial rfl (some b) W)
def bts (x : List UInt8) : ByteArray := ⟨x.toArray⟩
theorem bts_l (x : List UInt8) : (bts x).toList = x := by rw [bts, ByteArray.toList_eq]
theorem keyL_bts (x : List UInt8) : keyL (bts x) = .string x := by simp [keyL, bts]
theorem enc_strs (L : List (List UInt8)) : L.map encStr = strs (L.map bts) := by
  unfold strs
  rw [List.map_map]
  rfl
theorem nms_of {D : DataW Two} {f : ByteArray → Option Two} (hd : Dat D f) (K : ∃ es, D = .map es ∧ es.Pairwise (fun p q => p.1 ≠ q.1) ∧ ∀ p ∈ es, WideAt.IsKeyLit p.1 ∧ ∃ x, p.1 = .string x) {ss : List (List UInt8)} (hp : ss.Perm (strKeys D)) :
    Nms (fun s => (f s).isSome = true) ((ss.mergeSort (fun x y => decide (x ≤ y))).map bts) := by
  obtain ⟨es, rfl, hpw, hk⟩ := K
  have hnd0 : (es.map fun p => strOf p.1).Nodup := by
    refine List.pairwise_map.2 (hpw.imp_of_mem fun {p q} hp' hq' hne e => hne ?_)
    obtain ⟨_, a, ha⟩ := hk p hp'
    obtain ⟨_, b, hb⟩ := hk q hq'
    rw [ha, hb] at e ⊢
    exact congrArg _ e
  have hp' : ss.Perm (es.map fun p => strOf p.1) := hp
  have hnd : ss.Nodup := hp'.nodup_iff.2 hnd0
  have hkeys : ∀ x, x ∈ ss ↔ has (DataW.map es) (.string x) = true := by
    intro x
    rw [hp'.mem_iff, has_eq, List.any_eq_true, List.mem_map]
    constructor
    · rintro ⟨p, hpm, e⟩
      refine ⟨p, hpm, ?_⟩
      obtain ⟨h1, y, hy⟩ := hk p hpm
      rw [hy] at e h1 ⊢
      have : y = x := e
      subst this
      exact WideAt.sameKey_self h1
    · rintro ⟨p, hpm, e⟩
      refine ⟨p, hpm, ?_⟩
      obtain ⟨h1, y, hy⟩ := hk p hpm
      by_cases hxy : y = x
      · rw [hy, hxy]; rfl
      · rw [hy, sameKey_ne (fun h => hxy (by injection h))] at e
        cases e
  have tr : ∀ a b c : List UInt8, decide (a ≤ b) = true → decide (b ≤ c) = true → decide (a ≤ c) = true := fun a b c h1 h2 => by simp only [decide_eq_true_eq] at *; exact List.le_trans h1 h2
  have tot : ∀ a b : List UInt8, (decide (a ≤ b) || decide (b ≤ a)) = true := fun a b => by simp only [Bool.or_eq_true, decide_eq_true_eq]; exact List.le_total a b
  have hs := List.pairwise_mergeSort tr tot ss
  have hm := List.mergeSort_perm ss (fun x y => decide (x ≤ y))
  have hnd2 : (ss.mergeSort fun x y => decide (x ≤ y)).Nodup := hm.nodup_iff.2 hnd
  constructor
  · refine List.pairwise_map.2 ((hs.and hnd2).imp ?_)
    rintro a b ⟨h1, h2⟩
    show Op.bytesLess (bts a).toList (bts b).toList = true
    rw [bts_l, bts_l, bl_lt, decide_eq_true_eq]
    rw [decide_eq_true_eq] at h1
    rcases bl_tri a b with h | h | h
    · rw [bl_lt, decide_eq_true_eq] at h; exact h
    · exact (h2 h).elim
    · rw [bl_lt, decide_eq_true_eq] at h; exact (h1 h).elim
  · intro s
    show _ ↔ (f s).isSome = true
    rw [List.mem_map, ← (hd s).1]
    constructor
    · rintro ⟨x, hx, rfl⟩
      rw [hm.mem_iff] at hx
      rw [keyL_bts]
      exact (hkeys x).1 hx
    · intro h
      refine ⟨s.data.toList, hm.mem_iff.2 ((hkeys _).2 h), ?_⟩
      simp [bts]
theorem sorted_any (b n : Nat) (f : ByteArray → Option Two) (w : World) (h : Mp w b n f) (hn : n ≤ 10000) :
    Calls Try.prog 32 #[.func (.func 55) #[] #[.pointer (some ⟨w.heap.size, 0, none⟩)]] (w.alloc (.cells #[.map (some b)] 61)) fun e w' => ∃ v ns, e = .returned v ∧ Nms (fun s => (f s).isSome = true) ns ∧ ns.length ≤ n ∧
      SRow w' (w.heap.size + 1) v ns ∧ Below (w.alloc (.cells #[.map (some b)] 61)).heap.size (w.alloc (.cells #[.map (some b)] 61)) w' := by
  obtain ⟨D, hown, hd⟩ := h
  have hbl := hown.lt
  have hsz : Maps.size D ≤ n := hown.size_le
  have hseq : SeqGives Fence.wide 2 Try.prog 55 #[.pointer (some ⟨w.heap.size, 0, none⟩)] encStr (fun ss => ss.Perm (strKeys D)) (Maps.size D) (w.alloc (.cells #[.map (some b)] 61)) :=
    AnyZ.keys_gives (ρ := Try.keys33_ren) { Try.keys33 with } Fence.wide _ trivial rfl (by omega) w.heap.size b n D _ (by simp) (by simp) (by
      obtain ⟨es, clock, hb, Ft, hs, hD⟩ := hown
      exact ⟨es, clock, (Below.heap_alloc _ _ b hbl).trans hb, Ft, hs, hD⟩)
  have H := AnyZ.sorted_in Try.sorted32 Fence.wide 5 trivial trivial trivial trivial rfl (by omega) (sorts32 _) (enters_of Try.func54 (by kernel_rfl) rfl) 55 #[.pointer (some ⟨w.heap.size, 0, none⟩)] trivial (enters_of Try.func55 (by kernel_rfl) rfl) _ _ (by unfold maxLen; omega) (by omega) _ hseq
  refine (callsIn_wide.1 H).mono ?_
  rintro e w' ⟨v, ss, rfl, hperm, hrow, _, hb⟩
  have hk : ∃ es, D = .map es ∧ es.Pairwise (fun p q => p.1 ≠ q.1) ∧ ∀ p ∈ es, WideAt.IsKeyLit p.1 ∧ ∃ x, p.1 = .string x := by
    obtain ⟨es, e1, h1, h2⟩ := hown.entries lawK
    obtain ⟨es2, e2, h3⟩ := World.ownsMap.keysOf hown
    have e3 : es = es2 := by rw [e1] at e2; injection e2
    subst e3
    refine ⟨es, e1, h1, fun p hp => ⟨h2 p hp, ?_⟩⟩
    obtain ⟨v, hv⟩ := h3 p hp
    obtain ⟨x, _, hx, _⟩ := Maps.keyOf_str Try.underlying9 hv
    exact ⟨x, hx⟩
  have hN := nms_of hd hk hperm
  have hll : ss.length ≤ n := by
    rw [hperm.length_eq]
    obtain ⟨es, rfl, _⟩ := hk
    have : (strKeys (DataW.map es)).length = Maps.size (DataW.map es) := by simp [strKeys, Maps.size]
    omega
  refine ⟨v, _, rfl, hN, by rw [List.length_map, List.length_mergeSort]; exact hll, ?_, hb⟩
  rw [enc_strs] at hrow
  unfold SRow
  rw [List.length_map, List.length_mergeSort]
  have : (w.alloc (.cells #[.map (some b)] 61)).heap.size = w.heap.size + 1 := by simp
  rw [← this]
  exact hrow
end Go.Proofs.Ytkkmikgeppkhiaa

namespace Go.Proofs.Ytkkmikgeppkhiaa
open Go.ChangeShapes Go.WideShapes Go.ChangeAt Go.RowKit Go.Maps Go.WideMaps Go.Sort Go.Shelf
set_option linter.unusedVariables false
set_option linter.unusedSimpArgs false

def unb (s : ByteArray) : List UInt8 := s.data.toList
theorem bts_unb (s : ByteArray) : bts (unb s) = s := by simp [bts, unb]
theorem unb_bts (x : List UInt8) : unb (bts x) = x := by simp [bts, unb]
/-- the same texts, rising -/
def stS (ns : List ByteArray) : List ByteArray := ((ns.map unb).mergeSort (fun x y => decide (x ≤ y))).map bts
theorem stS_len (ns : List ByteArray) : (stS ns).length = ns.length := by simp [stS, List.length_mergeSort]
theorem stS_nms {P : ByteArray → Prop} {ns : List ByteArray} (hnd : ns.Nodup) (hm : ∀ s, s ∈ ns ↔ P s) : Nms P (stS ns) := by
  have tr : ∀ a b c : List UInt8, decide (a ≤ b) = true → decide (b ≤ c) = true → decide (a ≤ c) = true := fun a b c h1 h2 => by simp only [decide_eq_true_eq] at *; exact List.le_trans h1 h2
  have tot : ∀ a b : List UInt8, (decide (a ≤ b) || decide (b ≤ a)) = true := fun a b => by simp only [Bool.or_eq_true, decide_eq_true_eq]; exact List.le_total a b
  have hs := List.pairwise_mergeSort tr tot (ns.map unb)
  have hp := List.mergeSort_perm (ns.map unb) (fun x y => decide (x ≤ y))
  have hnd1 : (ns.map unb).Nodup := List.pairwise_map.2 (hnd.imp fun {a b} hne e => hne (by rw [← bts_unb a, e, bts_unb]))
  have hnd2 : ((ns.map unb).mergeSort fun x y => decide (x ≤ y)).Nodup := hp.nodup_iff.2 hnd1
  constructor
  · refine List.pairwise_map.2 ((hs.and hnd2).imp ?_)
    rintro a b ⟨h1, h2⟩
    show Op.bytesLess (bts a).toList (bts b).toList = true
    rw [bts_l, bts_l, bl_lt, decide_eq_true_eq]
    rw [decide_eq_true_eq] at h1
    rcases bl_tri a b with h | h | h
    · rw [bl_lt, decide_eq_true_eq] at h; exact h
    · exact (h2 h).elim
    · rw [bl_lt, decide_eq_true_eq] at h; exact (h1 h).elim
  · intro s
    unfold stS
    rw [List.mem_map]
    constructor
    · rintro ⟨x, hx, rfl⟩
      rw [hp.mem_iff, List.mem_map] at hx
      obtain ⟨t, ht, rfl⟩ := hx
      rw [bts_unb]
      exact (hm t).1 ht
    · intro h
      exact ⟨unb s, hp.mem_iff.2 (List.mem_map.2 ⟨s, (hm s).2 h, rfl⟩), bts_unb s⟩
theorem own_puts {w : World} {B t g n cap : Nat} {L : List Value} (h : w.ownsRow B t 1 (.slice (some ⟨g, 0, none⟩) n cap) n L) (M : List (List UInt8)) (hM : M.length = n) : (putRow encStr w g 0 M.toArray).ownsRow B t 1 (.slice (some ⟨g, 0, none⟩) n cap) n (M.map encStr) := by
  rcases h.2 with ⟨h1, _⟩ | ⟨g', cap', cur, hv, hB, hh, hn, hm, hs, ht⟩
  · cases h1
  · cases hv
    have hnk : n ≤ cur.size := by rw [hs]; omega
    refine ⟨by simpa using hM, .inr ⟨g, cap, putCells encStr 0 M.toArray cur, rfl, hB, ?_, hn, hm, by simp [putCells, hs], ?_⟩⟩
    · show (w.heap.modify g _)[g]? = _
      rw [Array.getElem?_modify, if_pos rfl, hh]
      rfl
    · apply List.ext_getElem?
      intro j
      rw [List.getElem?_take]
      by_cases hj : j < n * 1
      · rw [if_pos hj, Array.getElem?_toList]
        have hj' : j < n := by omega
        have hc : cur[j]? = some cur[j] := Array.getElem?_eq_getElem (by omega)
        simp only [putCells, Array.getElem?_mapIdx, hc, Option.map_some]
        rw [if_pos ⟨Nat.zero_le _, by simp [hM]; omega⟩]
        rw [List.getElem?_map, List.getElem?_eq_getElem (by omega)]
        simp [hM, hj']
      · rw [if_neg hj, List.getElem?_eq_none (by simp [hM]; omega)]
theorem sortS_any (B : Nat) (v : Value) (ns : List ByteArray) (w : World) (hB : B ≤ w.heap.size) (hn : ns.length ≤ 100000) (hr : SRow w B v ns) :
    Calls Try.prog 54 #[v] w fun e w' => e = .returned (.tuple #[]) ∧ SRow w' B v (stS ns) ∧ Below B w w' := by
  by_cases hv : v = .slice none 0 0
  · subst hv
    have hl : ns.length = 0 := by
      obtain ⟨u, cap, hv, _⟩ := own_form hr
      injection hv with _ h2 _
      exact h2.symm
    have hL : ns = [] := List.length_eq_zero_iff.1 hl
    subst hL
    refine (AnyM.slices_Sort_string_none Try.sort54 none 0 w).mono ?_
    rintro e w' ⟨rfl, rfl⟩
    exact ⟨rfl, by simpa [stS] using hr, Below.refl _ _⟩
  · obtain ⟨g, cap, rfl, hg1, hg2, hc1, hc2⟩ := own_sm hr hv
    have hlen : (ns.map unb).length = ns.length := List.length_map _
    have hH : Holds encStr w g 0 (ns.map unb).toArray := fun j hj => by
      have hj' : j < ns.length := by simpa using hj
      refine ⟨?_, own_frz hr _⟩
      rw [Nat.zero_add, own_cells hr (strs_at (List.getElem?_eq_getElem hj')), getElem!_pos (ns.map unb).toArray j hj]
      simp [unb, encStr]
    have H := AnyM.slices_Sort_string Try.sort54 g 0 cap (ns.map unb) w hH hg2 (by rw [hlen]; omega)
    rw [hlen] at H
    refine H.mono ?_
    rintro e w' ⟨rfl, n, os, rfl⟩
    have hml : ((ns.map unb).mergeSort fun x y => decide (x ≤ y)).length = ns.length := by rw [List.length_mergeSort, hlen]
    generalize hM : ((ns.map unb).mergeSort fun x y => decide (x ≤ y)) = M at *
    have hst : stS ns = M.map bts := by unfold stS; rw [hM]
    have hsz : (putRow encStr (Sort.ahead w n) g 0 M.toArray).heap.size = w.heap.size := by simp [putRow, mapBlock, Sort.ahead]
    have hold : ∀ k, k < w.heap.size → k ≠ g → (grow (putRow encStr (Sort.ahead w n) g 0 M.toArray) os).heap[k]? = w.heap[k]? := by
      intro k hk hkg
      show (_ ++ os)[k]? = _
      rw [Array.getElem?_append_left (by rw [hsz]; exact hk)]
      show (w.heap.modify g _)[k]? = _
      rw [Array.getElem?_modify, if_neg (by omega)]
    have hr2 : (Sort.ahead w n).ownsRow B 9 1 (.slice (some ⟨g, 0, none⟩) ns.length cap) ns.length (strs ns) := hr
    have h1 := own_puts hr2 M hml
    rw [enc_strs, ← hst] at h1
    refine ⟨rfl, ?_, ⟨rfl, rfl, rfl, ?_, fun k hk => hold k (by omega) (by omega)⟩⟩
    · unfold SRow
      rw [stS_len]
      refine own_kept h1 (fun b hb => ?_)
      have hbl := (own_ge h1 b hb).2
      show (_ ++ os)[b]? = _
      rw [Array.getElem?_append_left (by exact hbl)]
    · show w.heap.size ≤ (_ ++ os).size
      rw [Array.size_append]
      omega
end Go.Proofs.Ytkkmikgeppkhiaa

namespace Go.Proofs.Ytkkmikgeppkhiaa
open Go.ChangeShapes Go.WideShapes Go.ChangeAt Go.RowKit Go.Maps Go.WideMaps
set_option linter.unusedVariables false
set_option linter.unusedSimpArgs false

/-- both did something with a name, and that is not the same -/
def clsh (f g : ByteArray → Option Two) (s : ByteArray) : Bool := match f s, g s with | some p, some q => !bE q p | _, _ => false
theorem clsh_some {f g : ByteArray → Option Two} {s : ByteArray} (h : clsh f g s = true) : (f s).isSome = true := by
  unfold clsh at h
  cases e : f s with
  | none => rw [e] at h; simp at h
  | some p => rfl
/-- those found so far -/
def Cls (f g : ByteArray → Option Two) (left : ByteArray → Bool) (ns : List ByteArray) : Prop := ns.Nodup ∧ ∀ s, s ∈ ns ↔ clsh f g s = true ∧ left s = false
theorem Cls.start (f g : ByteArray → Option Two) : Cls f g (fun s => (f s).isSome) [] := ⟨List.Pairwise.nil, fun s => ⟨fun h => (by cases h), fun h => (by have k : (f s).isSome = false := h.2; rw [clsh_some h.1] at k; cases k)⟩⟩
theorem Cls.skip {f g : ByteArray → Option Two} {left : ByteArray → Bool} {ns : List ByteArray} (h : Cls f g left ns) {s : ByteArray} (hc : clsh f g s = false) : Cls f g (fun t => left t && !sEq s t) ns := by
  refine ⟨h.1, fun t => (h.2 t).trans ⟨fun ⟨a, b⟩ => ⟨a, (by simp [b])⟩, fun ⟨a, b⟩ => ⟨a, ?_⟩⟩⟩
  cases e : sEq s t with
  | true => rw [sEq_iff.1 e, a] at hc; cases hc
  | false => simpa [e] using b
theorem Cls.add {f g : ByteArray → Option Two} {left : ByteArray → Bool} {ns : List ByteArray} (h : Cls f g left ns) {s : ByteArray} (hl : left s = true) (hc : clsh f g s = true) : Cls f g (fun t => left t && !sEq s t) (ns ++ [s]) := by
  have hno : s ∉ ns := fun k => by rw [((h.2 s).1 k).2] at hl; cases hl
  refine ⟨?_, fun t => ?_⟩
  · refine List.nodup_append.2 ⟨h.1, by simp, ?_⟩
    intro a ha b hb e
    simp at hb
    subst hb
    subst e
    exact hno ha
  · rw [List.mem_append, h.2]
    constructor
    · rintro (⟨a, b⟩ | b)
      · exact ⟨a, by simp [b]⟩
      · simp at b
        subst b
        exact ⟨hc, by simp [sEq_refl]⟩
    · rintro ⟨a, b⟩
      cases e : sEq s t with
      | true => exact .inr (by rw [sEq_iff.1 e]; simp)
      | false => exact .inl ⟨a, by simpa [e] using b⟩
theorem own_str {w W2 w1 : World} {B n : Nat} {v v' : Value} {l : List ByteArray} {s : ByteArray} (hb : Below B w W2) (hB : B ≤ W2.heap.size) (h : w.ownsRow B 9 1 v n (strs l)) (h' : w1.ownsRow B 9 1 v' (n + 1) (strs l ++ strs [s])) (hg : W2.grownBy w1 v.ownBlock) :
    w1.ownsRow B 9 1 v' (n + 1) (strs (l ++ [s])) ∧ Below B w w1 := by
  have := own_moreV hb hB h h' hg
  rw [strs_app]
  exact this
theorem wpl_loadAtG {P : Program} {ops : Array Oper} {rest : List Oper} {o : Oper} {a : Act} {w : World} {Q : Exit → Act → World → Prop} (ty : TypeId) (x : Operand) (ho : o.op = .load ty x) (hgw : Region.wanted o (yielded ops a.tmps) = true)
    (ad : Addr) (hx : a.eval x = .pointer (some ad)) (v : Value) (hrun : (loadVar ty ad).run P w = .ok v w) (h : wpList P ops Q rest (a.put o.dst v) w) : wpList P ops Q (o :: rest) a w := by
  refine wpList_step fun K hK => ?_
  rw [if_pos hgw]
  unfold Oper.wp
  simp only [execOp, ho, Instr.loadAt, Instr.sureAddr, hx, Sem.run_bind, Sem.run_pure, Result.andThen_ok, hrun]
  exact hK _ _ h
set_option maxRecDepth 100000 in
set_option maxHeartbeats 8000000 in
theorem clash_any (b1 b2 n1 n2 : Nat) (f g : ByteArray → Option Two) (w : World) (h1 : Mp w b1 n1 f) (h2 : Mp w b2 n2 g) (hn : n1 ≤ 10000) :
    Calls Try.prog 41 #[.map (some b1), .map (some b2)] w fun e w' => ∃ v ns, e = .returned v ∧ Nms (fun s => clsh f g s = true) ns ∧ ns.length ≤ n1 ∧ SRow w' w.heap.size v ns ∧ Below w.heap.size w w' := by
  obtain ⟨iT, ht, hx0, hx1, hx2⟩ := info_parts info9
  have H1 := hide h1
  have H2 := hide h2
  have l1 := h1.lt
  have l2 := h2.lt
  clear h1 h2
  go_enter Try.func41, Try.ntmps41
  go_wp2_with (refine wpl_rangeN _ rfl _ 61 rfl und61 b1 n1 f rfl (unhide H1) ?_; intro w0 cnt0 hc0 hrg0 hg0 hs0)
  have R0 := hide hrg0
  have G0 := hide (gb_below hg0)
  have HS0 := hide hs0
  clear hrg0 hg0 hs0
  go_frame
  go_loopw [5, 6] (fun v _ W => ∃ left cnt m ns, Rg W b1 w.heap.size n1 f left cnt ∧ m + cnt ≤ n1 ∧ ns.length = m ∧ Cls f g left ns ∧ W.ownsRow (w.heap.size + 1) 9 1 v m (strs ns) ∧ Below w.heap.size w W ∧ w.heap.size + 1 ≤ W.heap.size) (fun _ _ W => W.rangeLeft b1 w.heap.size)
  case atStart => exact ⟨_, _, 0, [], unhide R0, by omega, rfl, Cls.start f g, own_nil _ _ _ _, unhide G0, by rw [unhide HS0]; exact Nat.le_refl _⟩
  case round =>
    obtain ⟨left, cnt, m, ns, hrg, hmc, hlen, hcl, hrow, hw, hge⟩ := hrel
    have HR := hide hrg
    have HW := hide hw
    have HLN := hide hlen
    have HCL := hide hcl
    have HRW := hide hrow
    have HGE := hide hge
    have hown := own_ge hrow
    have HOW := hide hown
    obtain ⟨ug, cg, rfl, _⟩ := own_form hrow
    clear hrg hlen hcl hrow hw hge hown
    go_wp2_with (first
      | (at_next; refine wpl_nextB _ rfl _ rfl b1 w.heap.size n1 f left cnt rfl (unhide HR) ?_ ?_)
      | go_in)
    · intro hl0
      have HL0 := hide hl0
      have HSO := hide (sortS_any (w.heap.size + 1) _ ns wr (unhide HGE) (by rw [unhide HLN]; omega) (by unfold SRow; rw [unhide HLN]; exact unhide HRW))
      clear hl0
      go_wp2_with fail
      refine (unhide HSO).mono ?_
      rintro e W1 ⟨rfl, hs1, hb1⟩
      have HS1 := hide hs1
      have HB1 := hide ((unhide HW).trans (hb1.mono (by omega)))
      clear hs1 hb1
      go_wp2_with fail
      go_ret
      exact ⟨_, _, rfl, stS_nms (unhide HCL).1 (fun s => ((unhide HCL).2 s).trans ⟨fun h => h.1, fun h => ⟨h, unhide HL0 s⟩⟩), by rw [stS_len, unhide HLN]; omega, own_mono (unhide HS1) (by omega), unhide HB1⟩
    · intro s p1_ p2_ w1 cnt1 hs hls hf hrg1 hlt hg1 hs1 hen
      have HR1 := hide hrg1
      have HW1 := hide (Below.grown (unhide HW) hg1 (unhide HW).size (fun j hj => by cases hj; exact Nat.le_refl _))
      have HRW1 := hide (own_kept (unhide HRW) (fun j hj => hg1.block j (unhide HOW j hj).2 (fun e => by cases e; have := (unhide HOW _ hj).1; omega)))
      have HGE1 : Hid (w.heap.size + 1 ≤ w1.heap.size) := hide (by rw [hs1]; exact unhide HGE)
      have HLT := hide hlt
      have HLS := hide hls
      obtain ⟨A, hA⟩ := bl_ex (p1_, p2_)
      rw [hA.v] at hen
      have HI := hide hA.info
      have HO := hide hA.one
      have hsz := hA.size
      have HLA := hide (fun W g (h : ab W g 68 A) => hA.load h)
      have HN := hide (ab_new w1 68 A _ rfl)
      have HR2 := hide ((unhide HR1).bel (ba (Below.refl _ _) (.cells A 68)))
      have HW2 := hide (ba (unhide HW1) (.cells A 68))
      have HRW2 := hide (own_bel (unhide HRW1) (ba (Below.refl _ _) (.cells A 68)))
      have HGE2 : Hid (w.heap.size + 1 ≤ (w1.alloc (.cells A 68)).heap.size) := hide (Nat.le_trans (unhide HGE1) (by simp))
      have HLK := hide (fun W (h : Below w.heap.size w W) => lacks_any b2 n2 g s W ((unhide H2).bel h) hs)
      have HGT := hide (fun W (h : Below w.heap.size w W) => ((unhide H2).bel h).get und61 s hs)
      have hcs : clsh f g s = match g s with | some q => !bE q (p1_, p2_) | none => false := by unfold clsh; rw [hf]; cases g s <;> rfl
      clear hrg1 hg1 hls hf hs1
      cases hq : g s with
      | none =>
        rw [hq] at HLK hcs
        have HST := hide ((unhide HCL).skip hcs)
        clear hq hcs HGT hA
        go_wp2_with (refine wpl_putNew rfl 68 _ _ rfl w1 _ A 68 rfl rfl (unhide HI) (by rw [hsz]; rfl) (unhide HO) ?_)
        refine (unhide HLK _ (unhide HW2)).mono ?_
        rintro e W2 ⟨rfl, hb2⟩
        have HR3 := hide ((unhide HR2).bel hb2)
        have HW3 := hide (bc (unhide HW2) hb2)
        have HRW3 := hide (own_bel (unhide HRW2) hb2)
        have HGE3 := hide (Nat.le_trans (unhide HGE2) hb2.size)
        clear hb2
        go_wp2_with fail
        go_roundw
        case rel => exact ⟨_, cnt1, m, ns, unhide HR3, by have := unhide HLT; omega, unhide HLN, unhide HST, unhide HRW3, unhide HW3, unhide HGE3⟩
        case measure => rw [(unhide HR3).left_eq, (unhide HR).left_eq]; exact unhide HLT
      | some q =>
        rw [hq] at HLK hcs HGT
        simp only [Option.getD_some, Option.isSome_some] at HGT HLK
        simp only at hcs
        obtain ⟨P, hP⟩ := bl_ex q
        have hne := hP.ne hA
        rw [hP.v] at HGT
        have hsP := hP.size
        clear hq hA hP
        generalize bE q (p1_, p2_) = qq at *
        cases qq
        · have HST := hide ((unhide HCL).add (unhide HLS) hcs)
          have HLN2 : Hid ((ns ++ [s]).length = m + 1) := hide (by rw [List.length_append, unhide HLN]; rfl)
          clear hcs
          go_wp2_with (refine wpl_putNew rfl 68 _ _ rfl w1 _ A 68 rfl rfl (unhide HI) (by rw [hsz]; rfl) (unhide HO) ?_)
          refine (unhide HLK _ (unhide HW2)).mono ?_
          rintro e W2 ⟨rfl, hb2⟩
          have HR3 := hide ((unhide HR2).bel hb2)
          have HW3 := hide (bc (unhide HW2) hb2)
          have HRW3 := hide (own_bel (unhide HRW2) hb2)
          have HGE3 := hide (Nat.le_trans (unhide HGE2) hb2.size)
          have HN3 := hide ((unhide HN).bel hb2)
          have hgt := unhide HGT _ (unhide HW3)
          clear hb2
          go_wp2_with (first
            | refine wpl_loadAtG 68 (.tmp 7) rfl (by first | rfl | (simp [Region.wanted, yielded]; done)) _ rfl _ (unhide HLA _ _ (unhide HN3)) ?_
            | (at_builtin; refine unhide ?_))
          refine hide ?_
          refine wpList_append_own _ rfl _ _ 34 rfl (w.heap.size + 1) 9 iT _ 1 16 Try.underlying34 ht hx0 hx1 hx2 rfl (by decide) _ m _ rfl (own_bel (unhide HRW3) (ba (Below.refl _ _) _)) _ 1 1 (strs [s]) rfl rfl (by first | exact news_cells _ _ rfl | exact news_cells _ _ (by simp)) strs_one (by unfold maxLen; omega) (by omega) (Nat.le_trans (unhide HGE3) (by simp)) ?_
          intro v' w2 hown' hgrow _
          have R := hide (own_str (Below.alloc (Below.refl (w.heap.size + 1) _) (unhide HGE3) _) (Nat.le_trans (unhide HGE3) (by simp)) (unhide HRW3) hown' hgrow)
          have HR4 := hide (gb_rg ((unhide HR3).bel (ba (Below.refl _ _) _)) hgrow (fun e => by have := (unhide HOW _ e).1; omega) (fun e => by have := (unhide HOW _ e).1; omega))
          clear hown' hgrow hgt
          go_wp2_with fail
          go_roundw
          case rel => exact ⟨_, cnt1, m + 1, ns ++ [s], unhide HR4, by have := unhide HLT; omega, unhide HLN2, unhide HST, (unhide R).1, (unhide HW3).trans ((unhide R).2.mono (by omega)), Nat.le_trans (unhide HGE3) (unhide R).2.size⟩
          case measure => rw [(unhide HR4).left_eq, (unhide HR).left_eq]; exact unhide HLT
        · have HST := hide ((unhide HCL).skip hcs)
          clear hcs
          go_wp2_with (refine wpl_putNew rfl 68 _ _ rfl w1 _ A 68 rfl rfl (unhide HI) (by rw [hsz]; rfl) (unhide HO) ?_)
          refine (unhide HLK _ (unhide HW2)).mono ?_
          rintro e W2 ⟨rfl, hb2⟩
          have HR3 := hide ((unhide HR2).bel hb2)
          have HW3 := hide (bc (unhide HW2) hb2)
          have HRW3 := hide (own_bel (unhide HRW2) hb2)
          have HGE3 := hide (Nat.le_trans (unhide HGE2) hb2.size)
          have HN3 := hide ((unhide HN).bel hb2)
          have hgt := unhide HGT _ (unhide HW3)
          clear hb2
          go_wp2_with (refine wpl_loadAtG 68 (.tmp 7) rfl (by first | rfl | (simp [Region.wanted, yielded]; done)) _ rfl _ (unhide HLA _ _ (unhide HN3)) ?_)
          go_roundw
          case rel => exact ⟨_, cnt1, m, ns, unhide HR3, by have := unhide HLT; omega, unhide HLN, unhide HST, unhide HRW3, unhide HW3, unhide HGE3⟩
          case measure => rw [(unhide HR3).left_eq, (unhide HR).left_eq]; exact unhide HLT
end Go.Proofs.Ytkkmikgeppkhiaa

namespace Go.Proofs.Ytkkmikgeppkhiaa
open Go.ChangeShapes Go.WideShapes Go.ChangeAt Go.RowKit
set_option linter.unusedVariables false
set_option linter.unusedSimpArgs false

theorem eds_get {B L : List Ft} {s : ByteArray} {p : Two} (h : eds B L s = some p) : p = ((gtF B s).getD ft0, (gtF L s).getD ft0) ∧ fE p.1 p.2 = false := by
  unfold eds at h
  obtain ⟨h1, h2⟩ := Option.filter_eq_some_iff.1 h
  have h3 := pr_getD B L s
  rw [h1] at h3
  exact ⟨h3, by simpa using h2⟩
theorem dTo_mem {f : ByteArray → Option Two} {X L : List Ft} (h : ∀ s p, f s = some p → p.2 = ft0 ∨ p.2 ∈ L) {x : Ft} (hx : x ∈ dTo f X L) : x ∈ X ∨ x ∈ L := by
  unfold dTo at hx
  rcases List.mem_append.1 hx with hx | hx
  · obtain ⟨y, hy, e⟩ := List.mem_filterMap.1 hx
    unfold dnB at e
    cases k : f y.nm with
    | none => rw [k] at e; simp only [Option.some.injEq] at e; subst e; exact .inl hy
    | some p =>
      rw [k] at e
      simp only at e
      split at e
      · cases e
      · rename_i k2
        simp only [Option.some.injEq] at e
        subst e
        rcases h _ _ k with h3 | h3
        · rw [h3, fE_refl] at k2; exact (k2 rfl).elim
        · exact .inr h3
  · exact .inr (List.mem_filter.1 hx).1
theorem dTo_len (f : ByteArray → Option Two) (X L : List Ft) : (dTo f X L).length ≤ X.length + L.length := by
  unfold dTo
  have a1 := List.length_filterMap_le (dnB f) X
  have a2 := List.length_filter_le (dnL f) L
  rw [List.length_append]
  omega
theorem dTo_dif {f : ByteArray → Option Two} {X L : List Ft} (hX : Dif X) (hL : Dif L) (h1 : ∀ s p, f s = some p → p.2 = ft0 ∨ p.2.nm = s) (h2 : ∀ y ∈ L, dnL f y = true → ∀ x ∈ X, x.nm ≠ y.nm) : Dif (dTo f X L) := by
  have hn : ∀ x z, dnB f x = some z → z.nm = x.nm := by
    intro x z e
    unfold dnB at e
    cases k : f x.nm with
    | none => rw [k] at e; simp only [Option.some.injEq] at e; rw [e]
    | some p =>
      rw [k] at e
      simp only at e
      split at e
      · cases e
      · rename_i k2
        simp only [Option.some.injEq] at e
        subst e
        rcases h1 _ _ k with h3 | h3
        · rw [h3, fE_refl] at k2; exact (k2 rfl).elim
        · exact h3
  unfold Dif dTo at *
  refine List.pairwise_append.2 ⟨List.pairwise_filterMap.2 (hX.imp fun {a b} hab c hc d hd => by rw [hn _ _ hc, hn _ _ hd]; exact hab), hL.filter _, ?_⟩
  intro a ha b hb
  obtain ⟨x, hx, e⟩ := List.mem_filterMap.1 ha
  obtain ⟨hb1, hb2⟩ := List.mem_filter.1 hb
  rw [hn _ _ e]
  exact h2 b hb1 hb2 x hx
theorem eds_late {B L : List Ft} (s : ByteArray) (p : Two) (h : eds B L s = some p) : p.2 = ft0 ∨ (p.2 ∈ L ∧ p.2.nm = s) := by
  have := (eds_get h).1
  subst this
  cases e : gtF L s with
  | none => exact .inl rfl
  | some y => exact .inr (gt_mem e)
theorem eds_came {B L : List Ft} (hB : ∀ f ∈ B, f ≠ ft0) {y : Ft} (h : dnL (eds B L) y = true) : gtF B y.nm = none := by
  unfold dnL at h
  cases k : eds B L y.nm with
  | none => rw [k] at h; cases h
  | some p =>
    rw [k] at h
    have h1 := (eds_get k).1
    subst h1
    cases e : gtF B y.nm with
    | none => rfl
    | some b =>
      rw [e] at h
      exact (hB b (gt_mem e).1 (fE_iff.1 h)).elim
/-- what one did to the base -/
def done1 (B O : List Ft) : List Ft := dTo (eds B O) B O
theorem done1_dif {B O : List Ft} (hB : ∀ f ∈ B, f ≠ ft0) (dB : Dif B) (dO : Dif O) : Dif (done1 B O) :=
  dTo_dif dB dO (fun s p h => (eds_late s p h).imp id fun h => h.2) fun y hy h => gt_none.1 (eds_came hB h)
theorem done1_mem {B O : List Ft} {x : Ft} (h : x ∈ done1 B O) : x ∈ B ∨ x ∈ O := dTo_mem (fun s p h => (eds_late s p h).imp id fun h => h.1) h
/-- what is merged -/
def mrg (B O T : List Ft) : List Ft := dTo (wto (eds B T) (eds B O)) (done1 B O) T
theorem mrg_mem {B O T : List Ft} {x : Ft} (h : x ∈ mrg B O T) : x ∈ B ∨ x ∈ O ∨ x ∈ T := by
  have := dTo_mem (fun s p h => by
    unfold wto at h
    split at h
    · cases h
    · exact (eds_late s p h).imp id fun h => h.1) h
  rcases this with h | h
  · exact (done1_mem h).imp id .inl
  · exact .inr (.inr h)
theorem mrg_len (B O T : List Ft) : (mrg B O T).length ≤ B.length + O.length + T.length := by
  unfold mrg done1
  have a1 := dTo_len (eds B O) B O
  have a2 := dTo_len (wto (eds B T) (eds B O)) (dTo (eds B O) B O) T
  omega
/-- an answer of Merge -/
def MgAns (B O T : List Ft) (out : List Ft) (c : Int) (nms : List ByteArray) : Prop :=
  ∃ d, Vc [B, O, T] d ∧ ((d ≠ 0 ∧ c = d ∧ out = [] ∧ nms = []) ∨ (d = 0 ∧ ∃ cl, Nms (fun s => clsh (eds B O) (eds B T) s = true) cl ∧
    ((cl ≠ [] ∧ c = 13 ∧ out = [] ∧ nms = cl) ∨ (cl = [] ∧ ∃ k ab, Chk (mrg B O T) k ab ∧ ((k ≠ 0 ∧ c = k ∧ out = [] ∧ nms = ab) ∨ (k = 0 ∧ c = 0 ∧ out = mrg B O T ∧ nms = []))))))
theorem MgAns.uniq {B O T : List Ft} {o o' : List Ft} {c c' : Int} {n n' : List ByteArray} (h : MgAns B O T o c n) (k : MgAns B O T o' c' n') : o = o' ∧ c = c' ∧ n = n' := by
  obtain ⟨d, hd, h⟩ := h
  obtain ⟨d', hd', k⟩ := k
  have e := hd.uniq hd'
  subst e
  rcases h with ⟨h1, rfl, rfl, rfl⟩ | ⟨h1, cl, hc, h⟩
  · rcases k with ⟨_, rfl, rfl, rfl⟩ | ⟨k1, _⟩
    · exact ⟨rfl, rfl, rfl⟩
    · exact (h1 k1).elim
  · rcases k with ⟨k1, _⟩ | ⟨_, cl', hc', k⟩
    · exact (k1 h1).elim
    · have e := hc.uniq hc'
      subst e
      rcases h with ⟨h2, rfl, rfl, rfl⟩ | ⟨h2, j, ab, hj, h⟩
      · rcases k with ⟨_, rfl, rfl, rfl⟩ | ⟨k2, _⟩
        · exact ⟨rfl, rfl, rfl⟩
        · exact (h2 k2).elim
      · rcases k with ⟨k2, _⟩ | ⟨_, j', ab', hj', k⟩
        · exact (k2 h2).elim
        · obtain ⟨e1, e2⟩ := hj.uniq hj'
          subst e1
          subst e2
          rcases h with ⟨h3, rfl, rfl, rfl⟩ | ⟨h3, rfl, rfl, rfl⟩
          · rcases k with ⟨_, rfl, rfl, rfl⟩ | ⟨k3, _⟩
            · exact ⟨rfl, rfl, rfl⟩
            · exact (h3 k3).elim
          · rcases k with ⟨k3, _⟩ | ⟨_, rfl, rfl, rfl⟩
            · exact (k3 h3).elim
            · exact ⟨rfl, rfl, rfl⟩
/-- what a call of Merge ends with -/
def MgEnd (B O T : List Ft) (w : World) (e : Ending) (w' : World) : Prop :=
  (∃ v c out v3 nms, e = .returned (.tuple #[v, .int .i64 c, v3]) ∧ MgAns B O T out c nms ∧ w'.ownsRow w.heap.size 57 15 v out.length (flatG ftc out) ∧ SRow w' w.heap.size v3 nms) ∧ Below w.heap.size w w'
theorem mgEnd_code {B O T : List Ft} {w w' : World} {v v3 : Value} {c : Int} (hc : Vc [B, O, T] c) (h0 : c ≠ 0) (hv : w'.ownsRow w.heap.size 57 15 v 0 []) (hv3 : w'.ownsRow w.heap.size 9 1 v3 0 []) (hb : Below w.heap.size w w') : MgEnd B O T w (.returned (.tuple #[v, .int .i64 c, v3])) w' :=
  ⟨⟨v, c, [], v3, [], rfl, ⟨c, hc, .inl ⟨h0, rfl, rfl, rfl⟩⟩, hv, hv3⟩, hb⟩
end Go.Proofs.Ytkkmikgeppkhiaa

namespace Go.Proofs.Ytkkmikgeppkhiaa
open Go.ChangeShapes Go.WideShapes Go.ChangeAt Go.RowKit Go.Maps Go.WideMaps
set_option linter.unusedVariables false
set_option linter.unusedSimpArgs false

theorem Lok.lst {w : World} {u : Option Addr} {p po n c : Nat} {fs : List Ft} (h : Lok w ⟨u, p, po, c, fs⟩) (hl : fs.length = n) (hf : Fine fs) : Lst w u p po n fs :=
  ⟨hl, by rw [← hl]; have := hf.len; omega, h.at_, hf.dif, fun f hm => (h.size f hm).1⟩
theorem fss2 (a b : Ls) : fss [a, b] = [a.fs, b.fs] := rfl
theorem ekd_range (p : Two) : -9223372036854775808 ≤ ekd p ∧ ekd p ≤ 9223372036854775807 := by
  unfold ekd
  split
  · omega
  · split <;> omega
set_option maxRecDepth 100000 in
set_option maxHeartbeats 8000000 in
theorem editsP_any (u1 : Option Addr) (p1 o1 n1 c1 : Nat) (B : List Ft) (u2 : Option Addr) (p2 o2 n2 c2 : Nat) (L : List Ft) (w : World) (hl1 : B.length = n1) (hl2 : L.length = n2) (h1 : Lok w ⟨u1, p1, o1, c1, B⟩) (h2 : Lok w ⟨u2, p2, o2, c2, L⟩) :
    Calls Try.prog 9 #[.slice u1 n1 c1, .slice u2 n2 c2] w (EdEnd B L w) := by
  obtain ⟨iE, hi, hx0, hx1, hx2⟩ := info_parts info54
  have HL1 := hide hl1
  have HL2 := hide hl2
  have H1 := hide h1
  have H2 := hide h2
  clear hl1 hl2 h1 h2
  have HB0 := hide (ba (Below.refl w.heap.size w) (.cells #[.slice u1 n1 c1, .slice u2 n2 c2] 27))
  have HLS : Hid (LsAt (w.alloc (.cells #[.slice u1 n1 c1, .slice u2 n2 c2] 27)) w.heap.size 0 [⟨u1, p1, o1, c1, B⟩, ⟨u2, p2, o2, c2, L⟩]) := hide ⟨by simp, fun i l hi => by
    match i, hi with
    | 0, hi => cases hi; show _ = some (Value.slice u1 B.length c1); rw [unhide HL1]; simp [go_sem]
    | 1, hi => cases hi; show _ = some (Value.slice u2 L.length c2); rw [unhide HL2]; simp [go_sem]⟩
  have HC := hide (codes_any w.heap.size 0 2 2 [⟨u1, p1, o1, c1, B⟩, ⟨u2, p2, o2, c2, L⟩] (w.alloc (.cells #[.slice u1 n1 c1, .slice u2 n2 c2] 27)) rfl (by omega) (by
      intro l hl
      simp only [List.mem_cons, List.not_mem_nil, or_false] at hl
      rcases hl with rfl | rfl
      · exact (unhide H1).bel (ba (Below.refl _ _) _)
      · exact (unhide H2).bel (ba (Below.refl _ _) _)) (unhide HLS))
  rw [fss2] at HC
  clear HLS
  go_enter Try.func9, Try.ntmps9
  go_wp2_with fail
  refine (unhide HC).mono ?_
  rintro e W1 ⟨⟨c, rfl, hvc⟩, hb⟩
  have HV := hide hvc
  have HB1 := hide (bc (unhide HB0) hb)
  clear hvc hb HC
  by_cases hc : c = 0
  rotate_left
  · have c0 : (c != 0) = true := by simpa using hc
    have HC0 := hide hc
    clear hc
    go_wp2_with fail
    refine bodyPost_ret (v := .tuple #[.slice none 0 0, .int .i64 c]) (by simp [results, Try.results9, go_sem]; done) rfl ?_
    exact edEnd_code (unhide HV) (unhide HC0) (own_nil _ _ _ _) (unhide HB1)
  subst hc
  have hF := (unhide HV).zero
  have hF1 := hF B (by simp)
  have hF2 := hF L (by simp)
  have HF1 := hide hF1
  have HF2 := hide hF2
  have hn1 : n1 ≤ 30 := by rw [← unhide HL1]; exact hF1.len
  have hn2 : n2 ≤ 30 := by rw [← unhide HL2]; exact hF2.len
  have HED := hide (edits_any u1 p1 o1 n1 c1 B u2 p2 o2 n2 c2 L W1 (((unhide H1).bel (unhide HB1)).lst (unhide HL1) hF1) (((unhide H2).bel (unhide HB1)).lst (unhide HL2) hF2))
  clear hF hF1 hF2
  go_wp2_with fail
  refine (unhide HED).mono ?_
  rintro e W2 ⟨rfl, hm, hb⟩
  have HM := hide hm
  have HB2 := hide (bc (unhide HB1) hb)
  have HKY := hide (keys_any W1.heap.size W2)
  have HSO := hide (sorted_any W1.heap.size (n1 + n2) _ W2 hm (by omega))
  have hmlt := hm.lt
  clear hm hb
  go_wp2_with fail
  refine (unhide HKY).mono ?_
  rintro e W3 ⟨rfl, rfl⟩
  go_wp2_with fail
  refine (unhide HSO).mono ?_
  rintro e W4 ⟨v, ns, rfl, hns, hnl, hs, hb4⟩
  have HN := hide hns
  have hb24 : Below W2.heap.size W2 W4 := bc (ba (Below.refl _ _) _) hb4
  have HB4 := hide (bc (unhide HB2) hb24)
  have HM4 := hide ((unhide HM).bel hb24)
  have HNB := hide (fun s (hs : s ∈ ns) => (by have this : (eds B L s).isSome = true := (hns.2 s).1 hs; rw [Option.isSome_iff_exists] at this; obtain ⟨p, hp⟩ := this; have h3 := eds_knd (B := B) (L := L) (fun f hf => (unhide HF1).nm0 hf) (fun f hf => (unhide HF2).nm0 hf) s; have h4 := h3.1.1 (by rw [hp]; rfl); have h5 := knd_mem h4; rw [List.mem_append] at h5; rcases h5 with h5 | h5 <;> obtain ⟨f, hf, rfl⟩ := List.mem_map.1 h5; exact ((unhide H1).size f hf).1; exact ((unhide H2).size f hf).1 : s.size ≤ maxLen))
  have hqe : ∃ q, ns.length = q ∧ q ≤ 1048576 := ⟨_, rfl, by omega⟩
  obtain ⟨q, hq, hq1⟩ := hqe
  obtain ⟨uS, cS, rfl, _⟩ := own_form hs
  have hSt := (SRow.stAt hs).2
  rw [hq]
  have HQ := hide hq
  have HST := hide hSt
  have HMX := hide (fun W (h : Mp W W1.heap.size (n1 + n2) (eds B L)) => h)
  clear hs hb4 hb24 hq hSt hns hnl HSO HKY HED
  go_wp2_with fail
  go_loopw [8, 25] (fun v s W => ∃ (i : Nat), s = .int .i64 (i : Int) ∧ i ≤ q ∧ W.ownsRow W4.heap.size 54 2 v i (flatG edc ((ns.take i).map fun s => (ekd ((eds B L s).getD p0), s))) ∧ Below W4.heap.size W4 W) (fun _ s _ => q - (intOf s).toNat)
  case atStart => exact ⟨0, rfl, by omega, own_nil _ _ _ _, Below.refl _ _⟩
  case round =>
    obtain ⟨i, rfl, hi1, hrow, hw4⟩ := hrel
    have HR := hide hrow
    have HW := hide (bc (unhide HB4) hw4)
    have HW4 := hide hw4
    obtain ⟨ug, cg, rfl, _⟩ := own_form hrow
    clear hrow hw4
    by_cases h : i < q
    · have i1 : (i : Int) < (q : Int) := by omega
      have i0 : (0 : Int) ≤ (i : Int) := Int.natCast_nonneg _
      have iz : decide ((i : Int) < (q : Int)) = true := decide_eq_true i1
      obtain ⟨s, hx⟩ := get_some (unhide HQ) h
      have hne : ns ≠ [] := by intro e; subst e; cases hx
      obtain ⟨g, o, rfl, hgl, hc⟩ := ((unhide HST).bel (unhide HW4)) hne
      have k0 := hc i s hx
      have hss := unhide HNB s (List.mem_of_getElem? hx)
      have HTK : Hid ((ns.take (i + 1)).map (fun s => (ekd ((eds B L s).getD p0), s)) = (ns.take i).map (fun s => (ekd ((eds B L s).getD p0), s)) ++ [(ekd ((eds B L s).getD p0), s)]) := hide (by rw [List.take_add_one, hx, Option.toList_some, List.map_append]; rfl)
      obtain ⟨P, hP⟩ := bl_ex ((eds B L s).getD p0)
      have hlk := ((unhide HM4).bel (unhide HW4)).get und61 s hss
      rw [hP.v] at hlk
      have HKD := hide (fun W => kind_any ((eds B L s).getD p0) W)
      rw [hP.v] at HKD
      clear hx hc hne hss hP
      go_wp2_with fail
      refine (unhide HKD _).mono ?_
      rintro e W5 ⟨rfl, hb5⟩
      have HW5 := hide (bc (unhide HW4) hb5)
      have HR5 := hide (own_bel (unhide HR) hb5)
      clear hb5 k0 hlk
      generalize ekd ((eds B L s).getD p0) = kd at *
      go_wp2_with (at_builtin; refine unhide ?_)
      refine hide ?_
      refine wpList_append_own _ rfl _ _ 24 rfl W4.heap.size 54 iE _ 2 24 Try.underlying24 hi hx0 hx1 hx2 rfl (by decide) _ i _ rfl ((unhide HR5).alloc _) _ 1 1 [.int .i64 kd, .string s] rfl rfl (by first | exact news_cells _ _ rfl | exact news_cells _ _ (by simp)) (by intro u hu; simp at hu; rcases hu with rfl | rfl <;> rfl) (by unfold maxLen; omega) (by omega) (Nat.le_trans (unhide HW5).size (by simp)) ?_
      intro v' w1 hown' hgrow _
      have R := hide (own_ed (Below.alloc (Below.refl W4.heap.size _) (unhide HW5).size _) (Nat.le_trans (unhide HW5).size (by simp)) (unhide HR5) hown' hgrow)
      clear hown' hgrow
      go_wp2_with fail
      go_roundw
      case rel => exact ⟨i + 1, by simp, h, by rw [unhide HTK]; exact (unhide R).1, (unhide HW5).trans (unhide R).2⟩
      case measure => simp only [intOf]; omega
    · have i1 : ¬ (i : Int) < (q : Int) := by omega
      have iz : decide ((i : Int) < (q : Int)) = false := decide_eq_false i1
      have HE : Hid (ns.take i = ns) := hide (List.take_of_length_le (by rw [unhide HQ]; omega))
      have HIQ : Hid (i = q) := hide (by omega)
      go_wp2_with fail
      refine bodyPost_ret (v := .tuple #[.slice ug i cg, .int .i64 0]) (by simp [results, Try.results9, go_sem]; done) rfl ?_
      have h1 := unhide HR
      rw [unhide HE] at h1
      refine ⟨⟨_, 0, _, rfl, ⟨unhide HV, by rw [if_pos rfl]; exact edl_p (fun f hf => (unhide HF1).nm0 hf) (fun f hf => (unhide HF2).nm0 hf) (unhide HN)⟩, ?_⟩, unhide HW⟩
      unfold ERow
      rw [List.length_map, unhide HQ, ← unhide HIQ]
      exact own_mono h1 (unhide HB4).size
end Go.Proofs.Ytkkmikgeppkhiaa

namespace Go.Proofs.Ytkkmikgeppkhiaa
open Go.ChangeShapes Go.WideShapes Go.ChangeAt Go.RowKit Go.Maps Go.WideMaps
set_option linter.unusedVariables false
set_option linter.unusedSimpArgs false

theorem apl_mem {B L : List Ft} {ns : List ByteArray} {f : Ft} (h : f ∈ apl B L ns) : f ∈ B ∨ f ∈ L := by
  unfold apl at h
  rcases List.mem_append.1 h with h | h
  · obtain ⟨x, hx, e⟩ := List.mem_filterMap.1 h
    unfold apB at e
    split at e
    · exact .inr (gt_mem e).1
    · cases e; exact .inl hx
  · exact .inr (List.mem_filter.1 h).1
theorem apl_len (B L : List Ft) (ns : List ByteArray) : (apl B L ns).length ≤ B.length + L.length := by
  unfold apl
  have a1 := List.length_filterMap_le (apB L ns) B
  have a2 := List.length_filter_le (apL B ns) L
  rw [List.length_append]
  omega
theorem own_slF {w : World} {B : Nat} {v : Value} {l : List Ft} (h : w.ownsRow B 57 15 v l.length (flatG ftc l)) : ∃ u c p, v = .slice u l.length c ∧ l.length ≤ c ∧ SlG ftc 15 w u p 0 l := by
  obtain ⟨u, c, rfl, hc, _, h9⟩ := own_form h
  by_cases h0 : l = []
  · subst h0
    exact ⟨u, c, 0, rfl, hc, fun h => absurd rfl h⟩
  · obtain ⟨g, rfl, hB, hg, hcc⟩ := h9 (by intro e; exact h0 (List.eq_nil_of_length_eq_zero e))
    exact ⟨_, c, g, rfl, hc, fun _ => ⟨rfl, hg, fun i a ha j v hv => by rw [Nat.zero_add]; exact hcc _ _ (flatG_at ftc_len ha hv)⟩⟩
theorem apEnd_nil {B L : List Ft} {ns : List ByteArray} {w w' : World} {v : Value} {c : Int} (hc : ApAns B L ns [] c) (hv : w'.ownsRow w.heap.size 57 15 v 0 []) (hb : Below w.heap.size w w') : ApEnd B L ns w (.returned (.tuple #[v, .int .i64 c])) w' :=
  ⟨⟨v, c, [], rfl, hc, hv⟩, hb⟩
theorem apAns_code {B L : List Ft} {ns : List ByteArray} {c : Int} (hn : ns.length ≤ 4096) (h : Vc [B, L] c) (h0 : c ≠ 0) : ApAns B L ns [] c := by
  rcases h with ⟨⟨l, hl, h1⟩, rfl⟩ | ⟨h1, h2⟩
  · left
    simp only [List.mem_cons, List.not_mem_nil, or_false] at hl
    rcases hl with rfl | rfl
    · exact ⟨.inl h1, rfl, rfl⟩
    · exact ⟨.inr (.inl h1), rfl, rfl⟩
  · exact .inr ⟨h1 B (by simp), h1 L (by simp), hn, c, h2, .inl ⟨h0, rfl, rfl⟩⟩
set_option maxRecDepth 100000 in
set_option maxHeartbeats 8000000 in
theorem applyP_any (u1 : Option Addr) (p1 o1 n1 c1 : Nat) (B : List Ft) (u2 : Option Addr) (p2 o2 n2 c2 : Nat) (L : List Ft) (u3 : Option Addr) (n3 c3 : Nat) (ns : List ByteArray) (w : World) (hl1 : B.length = n1) (hl2 : L.length = n2) (hl3 : ns.length = n3) (hn3 : n3 ≤ 1048576)
    (h1 : Lok w ⟨u1, p1, o1, c1, B⟩) (h2 : Lok w ⟨u2, p2, o2, c2, L⟩) (h3 : StAt w u3 ns) (hs3 : ∀ s ∈ ns, s.size ≤ maxLen) :
    Calls Try.prog 24 #[.slice u1 n1 c1, .slice u2 n2 c2, .slice u3 n3 c3] w (ApEnd B L ns w) := by
  have HL1 := hide hl1
  have HL2 := hide hl2
  have HL3 := hide hl3
  have H1 := hide h1
  have H2 := hide h2
  have H3 := hide h3
  have HS3 := hide hs3
  clear hl1 hl2 hl3 h1 h2 h3 hs3
  by_cases hlong : 4096 < n3
  · have d1 : decide ((4096 : Int) < (n3 : Int)) = true := decide_eq_true (by omega)
    have d2 : decide ((n3 : Int) > 4096) = true := decide_eq_true (by omega)
    go_enter Try.func24, Try.ntmps24
    go_wp2_with fail
    refine bodyPost_ret (v := .tuple #[.slice none 0 0, .int .i64 2]) (by simp [results, Try.results24, go_sem]; done) rfl ?_
    exact apEnd_nil (.inl ⟨.inr (.inr (by rw [unhide HL3]; exact hlong)), rfl, rfl⟩) (own_nil _ _ _ _) (Below.refl _ _)
  have d1 : decide ((4096 : Int) < (n3 : Int)) = false := decide_eq_false (by omega)
  have d2 : decide ((n3 : Int) > 4096) = false := decide_eq_false (by omega)
  have HN3 : Hid (ns.length ≤ 4096) := hide (by rw [unhide HL3]; omega)
  have HB0 := hide (ba (Below.refl w.heap.size w) (.cells #[.slice u1 n1 c1, .slice u2 n2 c2] 27))
  have HLS : Hid (LsAt (w.alloc (.cells #[.slice u1 n1 c1, .slice u2 n2 c2] 27)) w.heap.size 0 [⟨u1, p1, o1, c1, B⟩, ⟨u2, p2, o2, c2, L⟩]) := hide ⟨by simp, fun i l hi => by
    match i, hi with
    | 0, hi => cases hi; show _ = some (Value.slice u1 B.length c1); rw [unhide HL1]; simp [go_sem]
    | 1, hi => cases hi; show _ = some (Value.slice u2 L.length c2); rw [unhide HL2]; simp [go_sem]⟩
  have HC := hide (codes_any w.heap.size 0 2 2 [⟨u1, p1, o1, c1, B⟩, ⟨u2, p2, o2, c2, L⟩] (w.alloc (.cells #[.slice u1 n1 c1, .slice u2 n2 c2] 27)) rfl (by omega) (by
      intro l hl
      simp only [List.mem_cons, List.not_mem_nil, or_false] at hl
      rcases hl with rfl | rfl
      · exact (unhide H1).bel (ba (Below.refl _ _) _)
      · exact (unhide H2).bel (ba (Below.refl _ _) _)) (unhide HLS))
  rw [fss2] at HC
  clear HLS
  go_enter Try.func24, Try.ntmps24
  go_wp2_with fail
  refine (unhide HC).mono ?_
  rintro e W1 ⟨⟨c, rfl, hvc⟩, hb⟩
  have HV := hide hvc
  have HB1 := hide (bc (unhide HB0) hb)
  clear hvc hb HC
  by_cases hc : c = 0
  rotate_left
  · have c0 : (c != 0) = true := by simpa using hc
    have HC0 := hide hc
    clear hc
    go_wp2_with fail
    refine bodyPost_ret (v := .tuple #[.slice none 0 0, .int .i64 c]) (by simp [results, Try.results24, go_sem]; done) rfl ?_
    exact apEnd_nil (apAns_code (unhide HN3) (unhide HV) (unhide HC0)) (own_nil _ _ _ _) (unhide HB1)
  subst hc
  have hF := (unhide HV).zero
  have hF1 := hF B (by simp)
  have hF2 := hF L (by simp)
  have HF1 := hide hF1
  have HF2 := hide hF2
  have hn1 : n1 ≤ 30 := by rw [← unhide HL1]; exact hF1.len
  have hn2 : n2 ≤ 30 := by rw [← unhide HL2]; exact hF2.len
  have HVG : Hid (Vg [B, L] 0) := hide (by
    rcases unhide HV with ⟨_, h⟩ | ⟨_, h⟩
    · cases h
    · exact h)
  have HLB : Hid (B.length ≤ 4096 ∧ L.length ≤ 4096) := hide ⟨by rw [unhide HL1]; omega, by rw [unhide HL2]; omega⟩
  have HED := hide (allb_any u1 p1 o1 n1 c1 B u2 p2 o2 n2 c2 L W1 (((unhide H1).bel (unhide HB1)).lst (unhide HL1) hF1) (((unhide H2).bel (unhide HB1)).lst (unhide HL2) hF2))
  clear hF hF1 hF2
  go_wp2_with fail
  refine (unhide HED).mono ?_
  rintro e W2 ⟨rfl, hm, hb⟩
  have HM := hide hm
  have HB2 := hide (bc (unhide HB1) hb)
  have hmlt := hm.lt
  have HLK := hide (hasL_any W1.heap.size (n1 + n2) (pr B L) u3 n3 c3 ns W2 hm (unhide HL3) hn3 ((unhide H3).bel (unhide HB2)) (unhide HS3))
  clear hm hb HED
  go_wp2_with fail
  refine (unhide HLK).mono ?_
  rintro e W3 ⟨rfl, hb3⟩
  have HB3 := hide (bc (unhide HB2) hb3)
  have HM3 := hide ((unhide HM).bel hb3)
  clear hb3 HLK
  cases hq : lck (pr B L) ns
  rotate_left
  · have HQ := hide ((lck_pr B L ns).1 hq)
    clear hq
    go_wp2_with fail
    refine bodyPost_ret (v := .tuple #[.slice none 0 0, .int .i64 6]) (by simp [results, Try.results24, go_sem]; done) rfl ?_
    exact apEnd_nil (.inr ⟨(unhide HLB).1, (unhide HLB).2, unhide HN3, 0, unhide HVG, .inr ⟨rfl, .inl ⟨unhide HQ, rfl, rfl⟩⟩⟩) (own_nil _ _ _ _) (unhide HB3)
  have HQ := hide (lck_pr_no B L ns hq)
  clear hq
  have HKP := hide (keep_any W1.heap.size (n1 + n2) (pr B L) u3 n3 c3 ns W3 (unhide HM3) (unhide HL3) (by omega) ((unhide H3).bel (unhide HB3)) (unhide HS3))
  go_wp2_with fail
  refine (unhide HKP).mono ?_
  rintro e W4 ⟨rfl, hm4, hg4⟩
  have HM4 := hide hm4
  have HB4 := hide (Below.grown (unhide HB3) hg4 (unhide HB3).size (fun j hj => by cases hj; exact (unhide HB1).size))
  have HDN := hide (done_any W1.heap.size n3 (kp (pr B L) ns) u1 p1 o1 n1 c1 B u2 p2 o2 n2 c2 L W4 hm4 (((unhide H1).bel (unhide HB4)).lst (unhide HL1) (unhide HF1)) (((unhide H2).bel (unhide HB4)).lst (unhide HL2) (unhide HF2)))
  rw [dTo_apl (fun f hf => (unhide HF1).nm0 hf) (fun f hf => (unhide HF2).nm0 hf) ns] at HDN
  clear hm4 hg4 HKP
  go_wp2_with fail
  refine (unhide HDN).mono ?_
  rintro e W5 ⟨v, rfl, hrow, hb5⟩
  have HB5 := hide (bc (unhide HB4) hb5)
  have HR5 := hide (own_mono hrow (unhide HB4).size)
  obtain ⟨uo, co, po, rfl, hco, hsl⟩ := own_slF hrow
  have hlo := apl_len B L ns
  have HFO := hide (orderOfP_any uo po 0 (apl B L ns).length co (apl B L ns) W5 rfl (by rw [unhide HL1, unhide HL2] at hlo; omega) (by
    intro f hf
    rcases apl_mem hf with h | h
    · exact (unhide H1).size f h
    · exact (unhide H2).size f h) hsl)
  obtain ⟨q, hq⟩ : ∃ q, (apl B L ns).length = q := ⟨_, rfl⟩
  have HQL := hide hq
  rw [hq] at HFO ⊢
  clear hrow hb5 hsl hco hlo hq HDN
  go_wp2_with fail
  refine (unhide HFO).mono ?_
  rintro e W6 ⟨⟨v1, k, v3, ab, rfl, hck, _, _⟩, hb6⟩
  have HCK := hide hck
  have HB6 := hide (bc (unhide HB5) hb6)
  have HR6 := hide (own_bel (unhide HR5) hb6)
  clear hck hb6 HFO
  by_cases hk : k = 0
  rotate_left
  · have k0 : (k != 0) = true := by simpa using hk
    have HK0 := hide hk
    clear hk
    go_wp2_with fail
    refine bodyPost_ret (v := .tuple #[.slice none 0 0, .int .i64 13]) (by simp [results, Try.results24, go_sem]; done) rfl ?_
    exact apEnd_nil (.inr ⟨(unhide HLB).1, (unhide HLB).2, unhide HN3, 0, unhide HVG, .inr ⟨rfl, .inr ⟨unhide HQ, k, ab, unhide HCK, .inl ⟨unhide HK0, rfl, rfl⟩⟩⟩⟩) (own_nil _ _ _ _) (unhide HB6)
  subst hk
  go_wp2_with fail
  refine bodyPost_ret (v := .tuple #[.slice uo q co, .int .i64 0]) (by simp [results, Try.results24, go_sem]; done) rfl ?_
  refine ⟨⟨_, 0, apl B L ns, rfl, .inr ⟨(unhide HLB).1, (unhide HLB).2, unhide HN3, 0, unhide HVG, .inr ⟨rfl, .inr ⟨unhide HQ, 0, ab, unhide HCK, .inr ⟨rfl, rfl, rfl⟩⟩⟩⟩, ?_⟩, unhide HB6⟩
  have := unhide HR6
  rw [unhide HQL] at this ⊢
  exact this
end Go.Proofs.Ytkkmikgeppkhiaa

namespace Go.Proofs.Ytkkmikgeppkhiaa
open Go.ChangeShapes Go.WideShapes Go.ChangeAt Go.RowKit
set_option linter.unusedVariables false
set_option linter.unusedSimpArgs false

theorem row_other {W : World} {g k : Nat} (cs : Array Value) (h : k ≠ g) : (W.setRow g cs).heap[k]? = W.heap[k]? := by
  show (W.heap.modify g _)[k]? = _
  rw [Array.getElem?_modify, if_neg (fun e => h e.symm)]
theorem row_same {W : World} {g t : Nat} {F : Array Value} (h : ab W g t F) (G : Array Value) : ab (W.setRow g G) g t G := by
  show (W.heap.modify g _)[g]? = _
  rw [Array.getElem?_modify, if_pos rfl, h]
  rfl
theorem findI_none' {fs : List Ft} {s : ByteArray} : findI fs s < 0 ↔ gtF fs s = none := by
  rw [findI_neg]
  unfold gtF
  rw [Option.map_eq_none_iff]
set_option maxRecDepth 100000 in
set_option maxHeartbeats 8000000 in
theorem applyM_any (u1 : Option Addr) (p1 o1 n1 c1 : Nat) (B : List Ft) (u2 : Option Addr) (p2 o2 n2 c2 : Nat) (L : List Ft) (u3 : Option Addr) (n3 c3 : Nat) (ns : List ByteArray) (w : World) (hl1 : B.length = n1) (hl2 : L.length = n2) (hl3 : ns.length = n3) (hn3 : n3 ≤ 1048576)
    (h1 : Lok w ⟨u1, p1, o1, c1, B⟩) (h2 : Lok w ⟨u2, p2, o2, c2, L⟩) (h3 : StAt w u3 ns) :
    Calls Try.prog 22 #[.slice u1 n1 c1, .slice u2 n2 c2, .slice u3 n3 c3] w (ApEnd B L ns w) := by
  obtain ⟨iF, hi, hx0, hx1, hx2⟩ := info_parts info57
  have HL1 := hide hl1
  have HL2 := hide hl2
  have HL3 := hide hl3
  have H1 := hide h1
  have H2 := hide h2
  have H3 := hide h3
  clear hl1 hl2 hl3 h1 h2 h3
  have HX0 := hide (own_made w 57 w.heap.size 15 (Nat.le_refl _) _ rfl)
  have NIL := hide (fun (W : World) (hb : Below (w.alloc (.cells #[] 57)).heap.size (w.alloc (.cells #[] 57)) W) (c : Int) (hc : ApAns B L ns [] c) => (apEnd_nil hc (own_bel (unhide HX0) hb) (bc (ba (Below.refl _ _) _) hb) : ApEnd B L ns w (.returned (.tuple #[.slice (some ⟨w.heap.size, 0, none⟩) 0 0, .int .i64 c])) W))
  have HW0 := hide (ba (Below.refl w.heap.size w) (.cells #[] 57))
  have h0s : (w.alloc (.cells #[] 57)).heap.size = w.heap.size + 1 := by simp
  have HD0 := hide (Below.refl (w.alloc (.cells #[] 57)).heap.size (w.alloc (.cells #[] 57)))
  by_cases hlo : 4096 < n1 ∨ 4096 < n2 ∨ 4096 < n3
  · have HV : Hid (ApAns B L ns [] 2) := hide (.inl ⟨by rw [unhide HL1, unhide HL2, unhide HL3]; exact hlo, rfl, rfl⟩)
    clear h0s
    by_cases ha : 4096 < n1
    · have d1 : decide ((n1 : Int) > 4096) = true := decide_eq_true (by omega)
      have d2 : decide ((4096 : Int) < (n1 : Int)) = true := decide_eq_true (by omega)
      clear hlo
      go_enter Try.func22, Try.ntmps22
      go_wp2_with fail
      refine bodyPost_ret (v := .tuple #[.slice (some ⟨w.heap.size, 0, none⟩) 0 0, .int .i64 2]) (by simp [results, Try.results22, go_sem]; done) rfl ?_
      exact unhide NIL _ (unhide HD0) 2 (unhide HV)
    · have d1 : decide ((n1 : Int) > 4096) = false := decide_eq_false (by omega)
      have d2 : decide ((4096 : Int) < (n1 : Int)) = false := decide_eq_false (by omega)
      by_cases hb : 4096 < n2
      · have d3 : decide ((n2 : Int) > 4096) = true := decide_eq_true (by omega)
        have d4 : decide ((4096 : Int) < (n2 : Int)) = true := decide_eq_true (by omega)
        clear hlo
        go_enter Try.func22, Try.ntmps22
        go_wp2_with fail
        refine bodyPost_ret (v := .tuple #[.slice (some ⟨w.heap.size, 0, none⟩) 0 0, .int .i64 2]) (by simp [results, Try.results22, go_sem]; done) rfl ?_
        exact unhide NIL _ (unhide HD0) 2 (unhide HV)
      · have d3 : decide ((n2 : Int) > 4096) = false := decide_eq_false (by omega)
        have d4 : decide ((4096 : Int) < (n2 : Int)) = false := decide_eq_false (by omega)
        have d5 : decide ((n3 : Int) > 4096) = true := decide_eq_true (by omega)
        have d6 : decide ((4096 : Int) < (n3 : Int)) = true := decide_eq_true (by omega)
        clear hlo
        go_enter Try.func22, Try.ntmps22
        go_wp2_with fail
        refine bodyPost_ret (v := .tuple #[.slice (some ⟨w.heap.size, 0, none⟩) 0 0, .int .i64 2]) (by simp [results, Try.results22, go_sem]; done) rfl ?_
        exact unhide NIL _ (unhide HD0) 2 (unhide HV)
  have a1 : decide ((4096 : Int) < (n1 : Int)) = false := decide_eq_false (by omega)
  have a2 : decide ((n1 : Int) > 4096) = false := decide_eq_false (by omega)
  have a3 : decide ((4096 : Int) < (n2 : Int)) = false := decide_eq_false (by omega)
  have a4 : decide ((n2 : Int) > 4096) = false := decide_eq_false (by omega)
  have a5 : decide ((4096 : Int) < (n3 : Int)) = false := decide_eq_false (by omega)
  have a6 : decide ((n3 : Int) > 4096) = false := decide_eq_false (by omega)
  have HLE := hide (And.intro (by rw [unhide HL1]; omega : B.length ≤ 4096) (And.intro (by rw [unhide HL2]; omega : L.length ≤ 4096) (by rw [unhide HL3]; omega : ns.length ≤ 4096)))
  clear hlo h0s
  have HC1 := hide (fun W (hb : Below w.heap.size w W) => codeM_any u1 p1 o1 n1 c1 B W (unhide HL1) (by have := (unhide H1).le; rw [← unhide HL1]; exact this) (by have := (unhide H1).cap; rw [← unhide HL1]; exact this) (unhide H1).size ((unhide H1).at_.bel hb))
  have HC2 := hide (fun W (hb : Below w.heap.size w W) => codeM_any u2 p2 o2 n2 c2 L W (unhide HL2) (by have := (unhide H2).le; rw [← unhide HL2]; exact this) (by have := (unhide H2).cap; rw [← unhide HL2]; exact this) (unhide H2).size ((unhide H2).at_.bel hb))
  go_enter Try.func22, Try.ntmps22
  go_wp2_with fail
  refine (unhide HC1 _ (unhide HW0)).mono ?_
  rintro e W1 ⟨⟨c, abx, rfl, hck⟩, hb1⟩
  have HK1 := hide hck
  have HD1 := hide hb1
  clear hck hb1
  by_cases hc : c = 0
  rotate_left
  · have c0 : (c != 0) = true := by simpa using hc
    have HC0 := hide hc
    clear hc
    go_wp2_with fail
    refine bodyPost_ret (v := .tuple #[.slice (some ⟨w.heap.size, 0, none⟩) 0 0, .int .i64 c]) (by simp [results, Try.results22, go_sem]; done) rfl ?_
    exact unhide NIL _ (unhide HD1) c (.inr ⟨(unhide HLE).1, (unhide HLE).2.1, (unhide HLE).2.2, c, vg_fst (unhide HK1) (unhide HC0), .inl ⟨unhide HC0, rfl, rfl⟩⟩)
  subst hc
  go_wp2_with fail
  refine (unhide HC2 _ (bc (unhide HW0) (unhide HD1))).mono ?_
  rintro e W2 ⟨⟨c, ab', rfl, hck⟩, hb2⟩
  have HK2 := hide hck
  have HD2 := hide (bc (unhide HD1) hb2)
  clear hck hb2
  have HVG := hide (vg_two (unhide HK1) (unhide HK2))
  by_cases hc : c = 0
  rotate_left
  · have c0 : (c != 0) = true := by simpa using hc
    have HC0 := hide hc
    clear hc
    go_wp2_with fail
    refine bodyPost_ret (v := .tuple #[.slice (some ⟨w.heap.size, 0, none⟩) 0 0, .int .i64 c]) (by simp [results, Try.results22, go_sem]; done) rfl ?_
    exact unhide NIL _ (unhide HD2) c (.inr ⟨(unhide HLE).1, (unhide HLE).2.1, (unhide HLE).2.2, c, unhide HVG, .inl ⟨unhide HC0, rfl, rfl⟩⟩)
  subst hc
  have hF1 := (unhide HK1).zero.1
  have hF2 := (unhide HK2).zero.1
  have hn1 : n1 ≤ 30 := by rw [← unhide HL1]; exact hF1.len
  have hn2 : n2 ≤ 30 := by rw [← unhide HL2]; exact hF2.len
  clear hF1 hF2
  have HFB := hide (fun s W (hb : Below w.heap.size w W) => find_any u1 p1 o1 n1 c1 B s W (unhide HL1) (by omega) ((unhide H1).at_.bel hb))
  have HFL := hide (fun s W (hb : Below w.heap.size w W) => find_any u2 p2 o2 n2 c2 L s W (unhide HL2) (by omega) ((unhide H2).at_.bel hb))
  go_wp2_with fail
  go_loopw [11] (fun s W => ∃ i : Nat, s = .int .i64 (i : Int) ∧ i ≤ n3 ∧ (∀ (j : Nat) (s : ByteArray), j < i → ns[j]? = some s → gtF B s ≠ none ∨ gtF L s ≠ none) ∧ W = W2) (fun s _ => n3 - (intOf s).toNat)
  case atStart => exact ⟨0, rfl, Nat.zero_le _, fun j s hj => by omega, rfl⟩
  case round =>
    obtain ⟨i, rfl, hi1, hno, hw⟩ := hrel
    subst hw
    have HN := hide hno
    clear hno
    have HWN := hide (bc (unhide HW0) (unhide HD2))
    by_cases h : i < n3
    · have i1 : (i : Int) < (n3 : Int) := by omega
      have i0 : (0 : Int) ≤ (i : Int) := Int.natCast_nonneg _
      have iz : decide ((i : Int) < (n3 : Int)) = true := decide_eq_true i1
      obtain ⟨s, hx⟩ := get_some (unhide HL3) h
      have hne : ns ≠ [] := by intro e; subst e; cases hx
      obtain ⟨g, o, rfl, hgl, hc⟩ := ((unhide H3).bel (unhide HWN)) hne
      have k0 := hc i s hx
      have HX := hide hx
      have HA := hide (unhide HFB s _ (unhide HWN))
      have HB := hide (unhide HFL s _ (unhide HWN))
      have hia := findI_none' (fs := B) (s := s)
      have hib := findI_none' (fs := L) (s := s)
      clear hx hc hne
      generalize findI B s = fa at *
      generalize findI L s = fb at *
      by_cases hfa : fa < 0
      · have d1 : decide (fa < 0) = true := decide_eq_true hfa
        have HGA := hide (hia.1 hfa)
        clear hia
        by_cases hfb : fb < 0
        · have d2 : decide (fb < 0) = true := decide_eq_true hfb
          have HGB := hide (hib.1 hfb)
          clear hib
          go_wp2_with fail
          refine (unhide HA).mono ?_
          rintro e W4 ⟨rfl, rfl⟩
          go_wp2_with fail
          refine (unhide HB).mono ?_
          rintro e W4 ⟨rfl, rfl⟩
          go_wp2_with fail
          refine bodyPost_ret (v := .tuple #[.slice (some ⟨w.heap.size, 0, none⟩) 0 0, .int .i64 6]) (by simp [results, Try.results22, go_sem]; done) rfl ?_
          exact unhide NIL _ (unhide HD2) 6 (.inr ⟨(unhide HLE).1, (unhide HLE).2.1, (unhide HLE).2.2, 0, unhide HVG, .inr ⟨rfl, .inl ⟨⟨s, List.mem_of_getElem? (unhide HX), unhide HGA, unhide HGB⟩, rfl, rfl⟩⟩⟩)
        · have d2 : decide (fb < 0) = false := decide_eq_false hfb
          have HGB := hide (fun e => hfb (hib.2 e))
          clear hib
          go_wp2_with fail
          refine (unhide HA).mono ?_
          rintro e W4 ⟨rfl, rfl⟩
          go_wp2_with fail
          refine (unhide HB).mono ?_
          rintro e W4 ⟨rfl, rfl⟩
          go_wp2_with fail
          go_roundw
          case rel =>
            refine ⟨i + 1, by simp, h, ?_, by first | rfl | trivial⟩
            intro j t hj ht
            by_cases e : j = i
            · subst e
              rw [unhide HX] at ht
              cases ht
              exact .inr (unhide HGB)
            · exact unhide HN j t (by omega) ht
          case measure => simp only [intOf]; omega
      · have d1 : decide (fa < 0) = false := decide_eq_false hfa
        have HGA := hide (fun e => hfa (hia.2 e))
        clear hia hib
        go_wp2_with fail
        refine (unhide HA).mono ?_
        rintro e W4 ⟨rfl, rfl⟩
        go_wp2_with fail
        go_roundw
        case rel =>
          refine ⟨i + 1, by simp, h, ?_, by first | rfl | trivial⟩
          intro j t hj ht
          by_cases e : j = i
          · subst e
            rw [unhide HX] at ht
            cases ht
            exact .inl (unhide HGA)
          · exact unhide HN j t (by omega) ht
        case measure => simp only [intOf]; omega
    · have i1 : ¬ (i : Int) < (n3 : Int) := by omega
      have iz : decide ((i : Int) < (n3 : Int)) = false := decide_eq_false i1
      have HQ := hide (fun s (hs : s ∈ ns) => (by
        obtain ⟨j, hj, rfl⟩ := List.getElem_of_mem hs
        exact unhide HN j _ (by have := unhide HL3; omega) (List.getElem?_eq_getElem hj) : gtF B s ≠ none ∨ gtF L s ≠ none))
      clear HN
      go_wp2_with fail
      have HU1 : Hid (SlG ftc 15 w u1 p1 o1 B) := hide (unhide H1).at_
      have HU2 : Hid (SlG ftc 15 w u2 p2 o2 L) := hide (unhide H2).at_
      obtain ⟨b0, hb0⟩ : ∃ b0, (w.alloc (.cells #[] 57)).heap.size = b0 := ⟨_, rfl⟩
      have HB0 := hide hb0
      have hbw : w.heap.size ≤ b0 := by rw [← hb0]; simp
      have HBW := hide hbw
      have HDX : Hid (Below b0 (w.alloc (.cells #[] 57)) wr) := hide (by rw [← hb0]; exact unhide HD2)
      have hbr : b0 ≤ wr.heap.size := by rw [← hb0]; exact (unhide HD2).size
      have HBR := hide hbr
      have HTOW := hide (fun W (hW : Below b0 (w.alloc (.cells #[] 57)) W) => ((unhide HW0).trans (hW.mono hbw) : Below w.heap.size w W))
      have HHS := hide (fun s W (hW : Below w.heap.size w W) => has_any u3 n3 c3 ns s W (unhide HL3) hn3 ((unhide H3).bel hW))
      have HGT := hide (fun s W (hW : Below w.heap.size w W) => getM_any u2 p2 o2 n2 c2 L s W (unhide HL2) (by omega) ((unhide HU2).bel hW))
      clear HFL HC1 HC2 hb0 hbw hbr
      go_loopw [12, 13] (fun v s W => ∃ (i m : Nat), s = .int .i64 (i : Int) ∧ i ≤ n1 ∧ m ≤ i ∧ ((B.take i).filterMap (apB L ns)).length = m ∧ W.ownsRow b0 57 15 v m (flatG ftc ((B.take i).filterMap (apB L ns))) ∧ Below b0 (w.alloc (.cells #[] 57)) W ∧ b0 ≤ W.heap.size) (fun _ s _ => n1 - (intOf s).toNat)
      case atStart => exact ⟨0, 0, rfl, Nat.zero_le _, Nat.le_refl _, rfl, own_made wr 57 b0 15 (unhide HBR) _ rfl, Below.alloc (unhide HDX) (unhide HBR) _, Nat.le_trans (unhide HBR) (by simp)⟩
      case round =>
        obtain ⟨i, m, rfl, hi1, hmi, hlen, hrow, hd, hbs⟩ := hrel
        have HR := hide hrow
        have HD := hide hd
        have HBS := hide hbs
        have HW := hide (unhide HTOW _ hd)
        have HLN := hide hlen
        obtain ⟨ug, cg, rfl, _⟩ := own_form hrow
        have hge := own_ge hrow
        clear hrow hd hlen hbs
        by_cases h : i < n1
        · have i1 : (i : Int) < (n1 : Int) := by omega
          have i0 : (0 : Int) ≤ (i : Int) := Int.natCast_nonneg _
          have iz : decide ((i : Int) < (n1 : Int)) = true := decide_eq_true i1
          obtain ⟨x, hx⟩ := get_some (unhide HL1) h
          obtain ⟨F, hF⟩ := fl_ex x
          obtain ⟨rfl, hpw, hld⟩ := SlG.load hF ((unhide HU1).bel (unhide HW)) hx
          have LD := hide hld
          have HI := hide hF.info
          have HO := hide hF.one
          have HF := hide hF
          have hfold := fold_F hF
          have hsz := hF.size
          have HTK := hide (filterMap_take (apB L ns) hx)
          have HLF := hide (fun g W (h : ab W g 57 F) => hF.load0 h)
          have cF0 : F[0]'(by omega) = .string x.nm := by
            have c0 : F[0]? = some (.string x.nm) := by rw [← Array.getElem?_toList, hF.l]; rfl
            rw [Array.getElem?_eq_getElem (by omega)] at c0
            exact Option.some.inj c0
          have HN := hide (ab_new wr 57 F _ rfl)
          have HWN := hide (ba (unhide HW) (.cells F 57))
          have HDN := hide (Below.alloc (unhide HD) (unhide HBS) (.cells F 57))
          have HBN : Hid (b0 ≤ (wr.alloc (.cells F 57)).heap.size) := hide (Nat.le_trans (unhide HBS) (by simp))
          have HRN := hide (own_bel (unhide HR) (ba (Below.refl _ _) (.cells F 57)))
          have hap : apB L ns x = if hasT ns x.nm = true then gtF L x.nm else some x := rfl
          have HHX := hide (unhide HHS x.nm _ (unhide HWN))
          have HGX := hide (unhide HGT x.nm _ (unhide HWN))
          have HGE := hide hge
          clear hld hx hF hge
          cases hq : hasT ns x.nm
          · rw [hq] at HHX hap
            have HTK2 : Hid ((B.take (i + 1)).filterMap (apB L ns) = (B.take i).filterMap (apB L ns) ++ [x]) := hide (by rw [unhide HTK, hap]; rfl)
            clear hq hap HTK
            go_wp2_with (first | refine wpl_loadAt rfl 57 (.tmp 76) rfl _ rfl _ (unhide LD) ?_ | refine wpl_putNew rfl 57 _ _ rfl wr _ F 57 rfl rfl (unhide HI) (by rw [hsz]; rfl) (unhide HO) ?_)
            refine (unhide HHX).mono ?_
            rintro e W4 ⟨rfl, rfl⟩
            go_wp2_with (first
              | refine wpl_loadAt rfl 57 (.tmp 14) rfl _ rfl _ (unhide HLF _ _ (unhide HN)) ?_
              | (at_builtin; refine unhide ?_))
            refine hide ?_
            refine wpList_append_own _ rfl _ _ 27 rfl b0 57 iF _ 15 144 Try.underlying27 hi hx0 hx1 hx2 rfl (by decide) _ m _ rfl (own_bel (unhide HRN) (ba (Below.refl _ _) _)) _ 1 1 (ftc x) rfl rfl (news_F (unhide HF) _ (by simp)) (ftc_one x) (by unfold maxLen; omega) (by omega) (Nat.le_trans (unhide HBN) (by simp)) ?_
            intro v' w1 hown' hgrow _
            have R := hide (own_ft (Below.alloc (Below.refl b0 _) (unhide HBN) _) (Nat.le_trans (unhide HBN) (by simp)) (unhide HRN) hown' hgrow)
            clear hown' hgrow
            go_wp2_with fail
            go_roundw
            case rel => exact ⟨i + 1, m + 1, by simp, h, by omega, by rw [unhide HTK2, List.length_append, unhide HLN]; rfl, by rw [unhide HTK2]; exact (unhide R).1, (unhide HDN).trans (unhide R).2, Nat.le_trans (unhide HBN) (unhide R).2.size⟩
            case measure => simp only [intOf]; omega
          · rw [hq] at HHX hap
            rw [if_pos rfl] at hap
            clear hq
            go_wp2_with (first | refine wpl_loadAt rfl 57 (.tmp 76) rfl _ rfl _ (unhide LD) ?_ | refine wpl_putNew rfl 57 _ _ rfl wr _ F 57 rfl rfl (unhide HI) (by rw [hsz]; rfl) (unhide HO) ?_)
            refine (unhide HHX).mono ?_
            rintro e W4 ⟨rfl, rfl⟩
            go_wp2_with fail
            refine (unhide HGX).mono ?_
            rintro e W5 ⟨rfl, hb5⟩
            obtain ⟨G, hG⟩ := fl_ex ((gtF L x.nm).getD ft0)
            rw [hG.v]
            have HN5 := hide ((unhide HN).bel hb5)
            have HD5 := hide ((unhide HDN).trans (hb5.mono (unhide HBN)))
            have HB5 := hide (Nat.le_trans (unhide HBN) hb5.size)
            have HR5 := hide (own_bel (unhide HRN) hb5)
            have HGI := hide hG.info
            have HGO := hide hG.one
            have hgz := hG.size
            have HRS := hide (own_kept (unhide HR5) (w' := W5.setRow wr.heap.size G) (fun k hk => row_other G (by have := unhide HGE k hk; omega)))
            have HDS := hide ((unhide HD5).trans (bel_row (Below.refl _ _) (unhide HBS) G) : Below b0 (w.alloc (.cells #[] 57)) (W5.setRow wr.heap.size G))
            have HBS5 : Hid (b0 ≤ (W5.setRow wr.heap.size G).heap.size) := hide (by simpa [World.setRow] using unhide HB5)
            have HNS := hide (row_same (unhide HN5) G)
            have HLG := hide (fun g W (h : ab W g 57 G) => hG.load0 h)
            have hfoldG := fold_F hG
            clear hb5 cF0 hfold
            cases hg : gtF L x.nm with
            | none =>
              rw [hg] at hap
              have HTK2 : Hid ((B.take (i + 1)).filterMap (apB L ns) = (B.take i).filterMap (apB L ns)) := hide (by rw [unhide HTK, hap]; simp)
              clear hap hg hG
              go_wp2_with (refine wpl_storeRowA rfl 57 _ _ rfl wr.heap.size G rfl rfl 57 F (unhide HN5) (unhide HGI) (by rw [hsz, hgz]) (unhide HGO) ?_)
              go_roundw
              case rel => exact ⟨i + 1, m, by simp, h, by omega, by rw [unhide HTK2, unhide HLN], by rw [unhide HTK2]; exact unhide HRS, unhide HDS, unhide HBS5⟩
              case measure => simp only [intOf]; omega
            | some y =>
              rw [hg] at hap hG
              simp only [Option.getD_some] at hG
              have HGF := hide hG
              have HTK2 : Hid ((B.take (i + 1)).filterMap (apB L ns) = (B.take i).filterMap (apB L ns) ++ [y]) := hide (by rw [unhide HTK, hap]; rfl)
              clear hap hg hG
              go_wp2_with (first
                | refine wpl_storeRowA rfl 57 _ _ rfl wr.heap.size G rfl rfl 57 F (unhide HN5) (unhide HGI) (by rw [hsz, hgz]) (unhide HGO) ?_
                | refine wpl_loadAt rfl 57 (.tmp 14) rfl _ rfl _ (unhide HLG _ _ (unhide HNS)) ?_
                | (at_builtin; refine unhide ?_))
              refine hide ?_
              refine wpList_append_own _ rfl _ _ 27 rfl b0 57 iF _ 15 144 Try.underlying27 hi hx0 hx1 hx2 rfl (by decide) _ m _ rfl (own_bel (unhide HRS) (ba (Below.refl _ _) _)) _ 1 1 (ftc y) rfl rfl (news_F (unhide HGF) _ (by simp [World.setRow])) (ftc_one y) (by unfold maxLen; omega) (by omega) (Nat.le_trans (unhide HBS5) (by simp)) ?_
              intro v' w1 hown' hgrow _
              have R := hide (own_ft (Below.alloc (Below.refl b0 _) (unhide HBS5) _) (Nat.le_trans (unhide HBS5) (by simp)) (unhide HRS) hown' hgrow)
              clear hown' hgrow
              go_wp2_with fail
              go_roundw
              case rel => exact ⟨i + 1, m + 1, by simp, h, by omega, by rw [unhide HTK2, List.length_append, unhide HLN]; rfl, by rw [unhide HTK2]; exact (unhide R).1, (unhide HDS).trans (unhide R).2, Nat.le_trans (unhide HBS5) (unhide R).2.size⟩
              case measure => simp only [intOf]; omega
        · have i1 : ¬ (i : Int) < (n1 : Int) := by omega
          have iz : decide ((i : Int) < (n1 : Int)) = false := decide_eq_false i1
          have HE : Hid ((B.take i).filterMap (apB L ns) = B.filterMap (apB L ns)) := hide (by rw [List.take_of_length_le (by rw [unhide HL1]; omega)])
          have HRB := hide (unhide HR)
          have HLB := hide (unhide HLN)
          rw [unhide HE] at HRB HLB
          have hm30 : m ≤ 30 := by omega
          clear HR HLN HE hge HGT
          go_wp2_with fail
          go_loopw [12, 16] (fun v s W => ∃ (i q : Nat), s = .int .i64 (i : Int) ∧ i ≤ n2 ∧ q ≤ m + i ∧ m + ((L.take i).filter (apL B ns)).length = q ∧ W.ownsRow b0 57 15 v q (flatG ftc (B.filterMap (apB L ns) ++ (L.take i).filter (apL B ns))) ∧ Below b0 (w.alloc (.cells #[] 57)) W ∧ b0 ≤ W.heap.size) (fun _ s _ => n2 - (intOf s).toNat)
          case atStart => exact ⟨0, m, rfl, Nat.zero_le _, by omega, rfl, by simpa using unhide HRB, unhide HD, unhide HBS⟩
          case round =>
            obtain ⟨i, q, rfl, hi1, hmi, hlen, hrow, hd, hbs⟩ := hrel
            have HR := hide hrow
            have HD := hide hd
            have HBS := hide hbs
            have HW := hide (unhide HTOW _ hd)
            have HLN := hide hlen
            obtain ⟨ug, cg, rfl, hcg, _, hsl9⟩ := own_form hrow
            clear hd hlen hbs
            by_cases h : i < n2
            · have i1 : (i : Int) < (n2 : Int) := by omega
              have i0 : (0 : Int) ≤ (i : Int) := Int.natCast_nonneg _
              have iz : decide ((i : Int) < (n2 : Int)) = true := decide_eq_true i1
              obtain ⟨x, hx⟩ := get_some (unhide HL2) h
              obtain ⟨F, hF⟩ := fl_ex x
              obtain ⟨rfl, hpw, hld⟩ := SlG.load hF ((unhide HU2).bel (unhide HW)) hx
              have k0 := (((unhide HU2).bel (unhide HW)).at15 hx).2.1
              have LD := hide hld
              have HF := hide hF
              have hfold := fold_F hF
              have hsz := hF.size
              have HTK := hide (filter_take (apL B ns) hx)
              have hap : apL B ns x = (hasT ns x.nm && (gtF B x.nm).isNone) := rfl
              have HHX := hide (unhide HHS x.nm _ (unhide HW))
              have HFX := hide (unhide HFB x.nm _ (unhide HW))
              have hfi := findI_none' (fs := B) (s := x.nm)
              have HFI := hide hfi
              clear hld hx hF hrow hsl9 hcg hfi
              cases hq : hasT ns x.nm
              · rw [hq] at HHX hap
                have HTK2 : Hid ((L.take (i + 1)).filter (apL B ns) = (L.take i).filter (apL B ns)) := hide (by rw [unhide HTK, hap]; simp)
                clear hq hap HTK
                go_wp2_with fail
                refine (unhide HHX).mono ?_
                rintro e W4 ⟨rfl, rfl⟩
                go_wp2_with fail
                go_roundw
                case rel => exact ⟨i + 1, q, by simp, h, by omega, by rw [unhide HTK2, unhide HLN], by rw [unhide HTK2]; exact unhide HR, unhide HD, unhide HBS⟩
                case measure => simp only [intOf]; omega
              · rw [hq] at HHX hap
                clear hq
                by_cases hfb : findI B x.nm < 0
                · have hg := (unhide HFI).1 hfb
                  rw [hg] at hap
                  have d2 : decide (findI B x.nm < 0) = true := decide_eq_true hfb
                  have HTK2 : Hid ((L.take (i + 1)).filter (apL B ns) = (L.take i).filter (apL B ns) ++ [x]) := hide (by rw [unhide HTK, hap]; rfl)
                  clear hap HTK hg
                  generalize findI B x.nm = fb at *
                  go_wp2_with fail
                  refine (unhide HHX).mono ?_
                  rintro e W4 ⟨rfl, rfl⟩
                  go_wp2_with fail
                  refine (unhide HFX).mono ?_
                  rintro e W4 ⟨rfl, rfl⟩
                  go_wp2_with (first
                    | refine wpl_loadAt rfl 57 (.tmp 120) rfl _ rfl _ (unhide LD) ?_
                    | (at_builtin; refine unhide ?_))
                  refine hide ?_
                  refine wpList_append_own _ rfl _ _ 27 rfl b0 57 iF _ 15 144 Try.underlying27 hi hx0 hx1 hx2 rfl (by decide) _ q _ rfl (own_bel (unhide HR) (ba (Below.refl _ _) _)) _ 1 1 (ftc x) rfl rfl (news_F (unhide HF) _ (by simp)) (ftc_one x) (by unfold maxLen; omega) (by omega) (Nat.le_trans (unhide HBS) (by simp)) ?_
                  intro v' w1 hown' hgrow _
                  have R := hide (own_ft (Below.alloc (Below.refl b0 _) (unhide HBS) _) (Nat.le_trans (unhide HBS) (by simp)) (unhide HR) hown' hgrow)
                  clear hown' hgrow
                  go_wp2_with fail
                  go_roundw
                  case rel => exact ⟨i + 1, q + 1, by simp, h, by omega, by rw [unhide HTK2, List.length_append, ← Nat.add_assoc, unhide HLN]; rfl, by rw [unhide HTK2, ← List.append_assoc]; exact (unhide R).1, (unhide HD).trans (unhide R).2, Nat.le_trans (unhide HBS) (unhide R).2.size⟩
                  case measure => simp only [intOf]; omega
                · have hg : (gtF B x.nm).isNone = false := by
                    cases e : gtF B x.nm with
                    | none => exact (hfb ((unhide HFI).2 e)).elim
                    | some y => rfl
                  rw [hg] at hap
                  have d2 : decide (findI B x.nm < 0) = false := decide_eq_false hfb
                  have HTK2 : Hid ((L.take (i + 1)).filter (apL B ns) = (L.take i).filter (apL B ns)) := hide (by rw [unhide HTK, hap]; simp)
                  clear hap HTK hg
                  generalize findI B x.nm = fb at *
                  go_wp2_with fail
                  refine (unhide HHX).mono ?_
                  rintro e W4 ⟨rfl, rfl⟩
                  go_wp2_with fail
                  refine (unhide HFX).mono ?_
                  rintro e W4 ⟨rfl, rfl⟩
                  go_wp2_with fail
                  go_roundw
                  case rel => exact ⟨i + 1, q, by simp, h, by omega, by rw [unhide HTK2, unhide HLN], by rw [unhide HTK2]; exact unhide HR, unhide HD, unhide HBS⟩
                  case measure => simp only [intOf]; omega
            · have i1 : ¬ (i : Int) < (n2 : Int) := by omega
              have iz : decide ((i : Int) < (n2 : Int)) = false := decide_eq_false i1
              have HE : Hid (B.filterMap (apB L ns) ++ (L.take i).filter (apL B ns) = apl B L ns) := hide (by rw [List.take_of_length_le (by rw [unhide HL2]; omega)]; rfl)
              have hql : (apl B L ns).length = q := by rw [← unhide HE, List.length_append, unhide HLB]; exact unhide HLN
              have HQL := hide hql
              have HRA := hide hrow
              rw [unhide HE] at HRA
              have hsl : ∃ p, SlG ftc 15 wr ug p 0 (apl B L ns) := by
                have h1 := unhide HRA
                rw [← hql] at h1
                obtain ⟨u9, c9, p9, e9, _, h9⟩ := own_slF h1
                injection e9 with q1 q2 q3
                subst q1
                exact ⟨p9, h9⟩
              obtain ⟨pq, hsl⟩ := hsl
              have HCD := hide (codeM_any ug pq 0 q cg (apl B L ns) wr hql (by omega) hcg (by
                intro f hf
                rcases apl_mem hf with h | h
                · exact (unhide H1).size f h
                · exact (unhide H2).size f h) hsl)
              clear hrow hsl9 hsl hql HR
              go_wp2_with fail
              refine (unhide HCD).mono ?_
              rintro e W6 ⟨⟨k, aby, rfl, hck⟩, hb6⟩
              have HCK := hide hck
              have HD6 := hide ((unhide HD).trans (hb6.mono (unhide HBS)))
              have HR6 := hide (own_bel (unhide HRA) hb6)
              clear hck hb6 HCD
              by_cases hk : k = 0
              rotate_left
              · have k0 : (k != 0) = true := by simpa using hk
                have HK0 := hide hk
                clear hk
                go_wp2_with fail
                refine bodyPost_ret (v := .tuple #[.slice (some ⟨w.heap.size, 0, none⟩) 0 0, .int .i64 13]) (by simp [results, Try.results22, go_sem]; done) rfl ?_
                exact unhide NIL _ (by rw [unhide HB0]; exact unhide HD6) 13 (.inr ⟨(unhide HLE).1, (unhide HLE).2.1, (unhide HLE).2.2, 0, unhide HVG, .inr ⟨rfl, .inr ⟨unhide HQ, k, aby, unhide HCK, .inl ⟨unhide HK0, rfl, rfl⟩⟩⟩⟩)
              subst hk
              go_wp2_with fail
              refine bodyPost_ret (v := .tuple #[.slice ug q cg, .int .i64 0]) (by simp [results, Try.results22, go_sem]; done) rfl ?_
              refine ⟨⟨_, 0, apl B L ns, rfl, .inr ⟨(unhide HLE).1, (unhide HLE).2.1, (unhide HLE).2.2, 0, unhide HVG, .inr ⟨rfl, .inr ⟨unhide HQ, 0, aby, unhide HCK, .inr ⟨rfl, rfl, rfl⟩⟩⟩⟩, ?_⟩, unhide HTOW _ (unhide HD6)⟩
              rw [unhide HQL]
              exact own_mono (unhide HR6) (unhide HBW)
end Go.Proofs.Ytkkmikgeppkhiaa

namespace Go.Proofs.Ytkkmikgeppkhiaa
open Go.ChangeShapes Go.WideShapes Go.ChangeAt Go.RowKit
set_option linter.unusedVariables false
set_option linter.unusedSimpArgs false

/-- a name that clashes, the model's way -/
def clM (B O T : List Ft) (s : ByteArray) : Bool := (decide (0 < knd B O s) && decide (0 < knd B T s)) && (((gtF O s).isSome != (gtF T s).isSome) || !fE ((gtF O s).getD ft0) ((gtF T s).getD ft0))
/-- what becomes of a feature of the base -/
def mgB (B O T : List Ft) (x : Ft) : Option Ft := if 0 < knd B O x.nm then gtF O x.nm else gtF T x.nm
/-- one more, if its name is none of these -/
def adS (B M : List Ft) (x : Ft) : List Ft := if (gtF M x.nm).isNone && (gtF B x.nm).isNone then M ++ [x] else M
def adL (B L M : List Ft) : List Ft := L.foldl (adS B) M
theorem adL_take {B L M : List Ft} {k : Nat} {x : Ft} (h : L[k]? = some x) : adL B (L.take (k + 1)) M = adS B (adL B (L.take k) M) x := by
  unfold adL
  rw [List.take_add_one, h, Option.toList_some, List.foldl_append]
  rfl
theorem adS_mem {B M : List Ft} {x y : Ft} (h : y ∈ adS B M x) : y ∈ M ∨ y = x := by
  unfold adS at h
  split at h
  · rcases List.mem_append.1 h with h | h
    · exact .inl h
    · exact .inr (by simpa using h)
  · exact .inl h
theorem adL_mem {B : List Ft} : ∀ {L M : List Ft} {y : Ft}, y ∈ adL B L M → y ∈ M ∨ y ∈ L
  | [], M, y, h => .inl h
  | x :: L, M, y, h => by
    have h2 : y ∈ adL B L (adS B M x) := h
    rcases adL_mem h2 with h | h
    · rcases adS_mem h with h | h
      · exact .inl h
      · exact .inr (by simp [h])
    · exact .inr (by simp [h])
/-- behind the first k versions -/
def mkV (B : List Ft) (vs : List (List Ft)) (M : List Ft) (k : Nat) : List Ft := ((vs.take k).drop 1).foldl (fun M l => adL B l M) M
theorem mkV_succ {B M : List Ft} {vs : List (List Ft)} {k : Nat} {l : List Ft} (hk : 1 ≤ k) (h : vs[k]? = some l) : mkV B vs M (k + 1) = adL B l (mkV B vs M k) := by
  have hlt := (List.getElem?_eq_some_iff.1 h).1
  unfold mkV
  rw [List.take_add_one, h, Option.toList_some, List.drop_append_of_le_length (by rw [List.length_take]; omega), List.foldl_append]
  rfl
/-- what is merged, the model's way -/
def mrgM (B O T : List Ft) : List Ft := mkV B [B, O, T] (B.filterMap (mgB B O T)) 3
theorem mrgM_eq (B O T : List Ft) : mrgM B O T = adL B T (adL B O (B.filterMap (mgB B O T))) := rfl
theorem mrgM_mem {B O T : List Ft} {x : Ft} (h : x ∈ mrgM B O T) : x ∈ B ∨ x ∈ O ∨ x ∈ T := by
  rw [mrgM_eq] at h
  rcases adL_mem h with h | h
  · rcases adL_mem h with h | h
    · obtain ⟨y, hy, e⟩ := List.mem_filterMap.1 h
      unfold mgB at e
      split at e
      · exact .inr (.inl (gt_mem e).1)
      · exact .inr (.inr (gt_mem e).1)
    · exact .inr (.inl h)
  · exact .inr (.inr h)
/-- an answer of Merge, the model's way -/
def MmAns (B O T : List Ft) (out : List Ft) (c : Int) (nms : List ByteArray) : Prop :=
  ∃ d, Vc [B, O, T] d ∧ ((d ≠ 0 ∧ c = d ∧ out = [] ∧ nms = []) ∨ (d = 0 ∧ ∃ cl, Nms (fun s => clM B O T s = true) cl ∧
    ((cl ≠ [] ∧ c = 13 ∧ out = [] ∧ nms = cl) ∨ (cl = [] ∧ ∃ k ab, Chk (mrgM B O T) k ab ∧ ((k ≠ 0 ∧ c = k ∧ out = [] ∧ nms = ab) ∨ (k = 0 ∧ c = 0 ∧ out = mrgM B O T ∧ nms = []))))))
def MmEnd (B O T : List Ft) (w : World) (e : Ending) (w' : World) : Prop :=
  (∃ v c out v3 nms, e = .returned (.tuple #[v, .int .i64 c, v3]) ∧ MmAns B O T out c nms ∧ w'.ownsRow w.heap.size 57 15 v out.length (flatG ftc out) ∧ SRow w' w.heap.size v3 nms) ∧ Below w.heap.size w w'
theorem clM_mem {B O T : List Ft} {s : ByteArray} (h : clM B O T s = true) : s ∈ B.map Ft.nm ++ O.map Ft.nm ++ T.map Ft.nm := by
  unfold clM at h
  simp only [Bool.and_eq_true, decide_eq_true_eq] at h
  have := knd_mem (B := B) (L := O) (s := s) (by omega)
  rw [List.mem_append]
  exact .inl this
theorem clM_nms {B O T : List Ft} {ns : List ByteArray} (h : Nms (fun s => s ∈ B.map Ft.nm ++ O.map Ft.nm ++ T.map Ft.nm) ns) : Nms (fun s => clM B O T s = true) (ns.filter (clM B O T)) :=
  h.filter fun s => ⟨fun k => ⟨clM_mem k, k⟩, fun k => k.2⟩
theorem filt_take {α : Type} {fs : List α} {k : Nat} {f : α} (g : α → Bool) (h : fs[k]? = some f) : (fs.take (k + 1)).filter g = (fs.take k).filter g ++ (if g f then [f] else []) := by
  rw [List.take_add_one, h, List.filter_append]
  cases hg : g f <;> simp [List.filter_cons, hg]
end Go.Proofs.Ytkkmikgeppkhiaa

namespace Go.Proofs.Ytkkmikgeppkhiaa
open Go.ChangeShapes Go.WideShapes Go.ChangeAt Go.RowKit
set_option linter.unusedVariables false
set_option linter.unusedSimpArgs false

theorem adL_filter (B : List Ft) : ∀ (L M : List Ft), Dif L → adL B L M = M ++ L.filter fun x => (gtF M x.nm).isNone && (gtF B x.nm).isNone
  | [], M, _ => by simp [adL]
  | x :: L, M, h => by
    obtain ⟨h1, h2⟩ := List.pairwise_cons.1 h
    have e0 : adL B (x :: L) M = adL B L (adS B M x) := rfl
    rw [e0, adL_filter B L _ h2, List.filter_cons]
    unfold adS
    cases e : ((gtF M x.nm).isNone && (gtF B x.nm).isNone) with
    | false => simp
    | true =>
      simp only [if_true]
      rw [List.append_assoc]
      congr 1
      show x :: _ = x :: _
      congr 1
      refine List.filter_congr fun y hy => ?_
      rw [gtF_app, gtF_one]
      have : sEq x.nm y.nm = false := sEq_ne (h1 y hy)
      rw [this]
      simp
theorem eds_none {B L : List Ft} {x : Ft} (hB : ∀ f ∈ B, f ≠ ft0) (hL : ∀ f ∈ L, f ≠ ft0) {s : ByteArray} (h : eds B L s = none) : gtF B s = gtF L s := by
  have := (eds_knd hB hL s).1
  rw [h] at this
  rw [← knd_zero]
  exact Classical.byContradiction fun k => by simpa using this.2 k
theorem eds_none' {B L : List Ft} (hB : ∀ f ∈ B, f ≠ ft0) (hL : ∀ f ∈ L, f ≠ ft0) {s : ByteArray} : eds B L s = none ↔ gtF B s = gtF L s := by
  have := (eds_knd hB hL s).1
  rw [← knd_zero]
  constructor
  · intro h
    rw [h] at this
    exact Classical.byContradiction fun k => by simpa using this.2 k
  · intro h
    cases e : eds B L s with
    | none => rfl
    | some p => rw [e] at this; exact (this.1 rfl h).elim
theorem eds_some' {B L : List Ft} {s : ByteArray} {p : Two} (h : eds B L s = some p) : p.1 = (gtF B s).getD ft0 ∧ p.2 = (gtF L s).getD ft0 := by
  have := (eds_get h).1
  subst this
  exact ⟨rfl, rfl⟩
theorem getD_ft0 {L : List Ft} (hL : ∀ f ∈ L, f ≠ ft0) (s : ByteArray) : fE ((gtF L s).getD ft0) ft0 = (gtF L s).isNone := by
  cases e : gtF L s with
  | none => exact fE_refl _
  | some y => exact fE_ne (hL y (gt_mem e).1)
theorem getD_ft0' {L : List Ft} (hL : ∀ f ∈ L, f ≠ ft0) (s : ByteArray) : (if fE ((gtF L s).getD ft0) ft0 = true then none else some ((gtF L s).getD ft0)) = gtF L s := by
  rw [getD_ft0 hL]
  cases e : gtF L s with
  | none => rfl
  | some y => rfl
/-- what is done to one of the base -/
theorem dnB_eds {B L : List Ft} (hB : ∀ f ∈ B, f ≠ ft0) (hL : ∀ f ∈ L, f ≠ ft0) (dB : Dif B) {x : Ft} (hx : x ∈ B) : dnB (eds B L) x = gtF L x.nm := by
  unfold dnB
  cases e : eds B L x.nm with
  | none => rw [← (eds_none' hB hL).1 e, gt_of dB hx]
  | some p =>
    obtain ⟨h1, h2⟩ := eds_some' e
    simp only [h2]
    exact getD_ft0' hL _
theorem dnL_eds {B L : List Ft} (hB : ∀ f ∈ B, f ≠ ft0) (hL : ∀ f ∈ L, f ≠ ft0) (dL : Dif L) {y : Ft} (hy : y ∈ L) : dnL (eds B L) y = (gtF B y.nm).isNone := by
  unfold dnL
  cases e : eds B L y.nm with
  | none =>
    have := (eds_none' hB hL).1 e
    rw [this, gt_of dL hy]
    rfl
  | some p =>
    obtain ⟨h1, h2⟩ := eds_some' e
    simp only [h1]
    exact getD_ft0 hB _
theorem fm_fm {α β γ : Type} (f : α → Option β) (g : β → Option γ) : ∀ l : List α, (l.filterMap f).filterMap g = l.filterMap fun x => (f x).bind g
  | [] => rfl
  | a :: l => by
    rw [List.filterMap_cons, List.filterMap_cons]
    cases e : f a with
    | none => simpa using fm_fm f g l
    | some b =>
      simp only [Option.bind_some, List.filterMap_cons]
      rw [fm_fm f g l]
theorem fm_some {α : Type} {f : α → Option α} : ∀ {l : List α}, (∀ x ∈ l, f x = some x) → l.filterMap f = l
  | [], _ => rfl
  | a :: l, h => by
    rw [List.filterMap_cons, h a (by simp)]
    simp only
    rw [fm_some fun x hx => h x (by simp [hx])]
theorem wto_some {f g : ByteArray → Option Two} {s : ByteArray} (h : g s ≠ none) : wto f g s = none := by
  unfold wto
  cases e : g s with
  | none => exact (h e).elim
  | some p => rfl
theorem wto_none {f g : ByteArray → Option Two} {s : ByteArray} (h : g s = none) : wto f g s = f s := by unfold wto; rw [h]; rfl
theorem mrg_eq {B O T : List Ft} (hB : ∀ f ∈ B, f ≠ ft0) (hO : ∀ f ∈ O, f ≠ ft0) (hT : ∀ f ∈ T, f ≠ ft0) (dB : Dif B) (dO : Dif O) (dT : Dif T) : mrg B O T = mrgM B O T := by
  -- the base's
  have hd1 : done1 B O = B.filterMap (fun x => gtF O x.nm) ++ O.filter fun y => (gtF B y.nm).isNone := by
    unfold done1 dTo
    congr 1
    · exact fm_congr fun x hx => dnB_eds hB hO dB hx
    · exact List.filter_congr fun y hy => dnL_eds hB hO dO hy
  have e1 : B.filterMap (fun x => (gtF O x.nm).bind (dnB (wto (eds B T) (eds B O)))) = B.filterMap (mgB B O T) := by
    refine fm_congr fun x hx => ?_
    have gx := gt_of dB hx
    unfold mgB
    by_cases hk : knd B O x.nm = 0
    · rw [if_neg (by omega)]
      have hg := knd_zero.1 hk
      rw [← hg, gx, Option.bind_some]
      have hn : eds B O x.nm = none := (eds_none' hB hO).2 hg
      have : dnB (wto (eds B T) (eds B O)) x = dnB (eds B T) x := by unfold dnB; rw [wto_none hn]
      rw [this]
      exact dnB_eds hB hT dB hx
    · rw [if_pos (by have := knd_range B O x.nm; omega)]
      have hs : eds B O x.nm ≠ none := fun h => hk (knd_zero.2 ((eds_none' hB hO).1 h))
      cases e : gtF O x.nm with
      | none => rfl
      | some y =>
        rw [Option.bind_some]
        unfold dnB
        rw [(gt_mem e).2, wto_some hs]
  have e2 : (O.filter fun y => (gtF B y.nm).isNone).filterMap (dnB (wto (eds B T) (eds B O))) = O.filter fun y => (gtF B y.nm).isNone := by
    refine fm_some fun y hy => ?_
    obtain ⟨hy1, hy2⟩ := List.mem_filter.1 hy
    have hs : eds B O y.nm ≠ none := fun h => by
      have := (eds_none' hB hO).1 h
      rw [gt_of dO hy1] at this
      rw [this] at hy2
      cases hy2
    unfold dnB
    rw [wto_some hs]
  have e3 : T.filter (dnL (wto (eds B T) (eds B O))) = T.filter fun z => (gtF O z.nm).isNone && (gtF B z.nm).isNone := by
    refine List.filter_congr fun z hz => ?_
    cases e : eds B O z.nm with
    | none =>
      have hg := (eds_none' hB hO).1 e
      have : dnL (wto (eds B T) (eds B O)) z = dnL (eds B T) z := by unfold dnL; rw [wto_none e]
      rw [this, dnL_eds hB hT dT hz, hg, Bool.and_self]
    | some p =>
      have hs : eds B O z.nm ≠ none := by rw [e]; intro h; cases h
      have : dnL (wto (eds B T) (eds B O)) z = false := by unfold dnL; rw [wto_some hs]
      rw [this]
      have hn : gtF B z.nm ≠ gtF O z.nm := fun h => hs ((eds_none' hB hO).2 h)
      cases a : gtF B z.nm with
      | some _ => simp
      | none =>
        cases b : gtF O z.nm with
        | some _ => simp
        | none => rw [a, b] at hn; exact (hn rfl).elim
  -- names of what is left of the base
  have hM : ∀ s, gtF B s = none → gtF (B.filterMap (mgB B O T)) s = none := by
    intro s hs
    rw [gt_none]
    intro f hf e
    obtain ⟨x, hx, hm⟩ := List.mem_filterMap.1 hf
    have : f.nm = x.nm := by
      unfold mgB at hm
      split at hm
      · exact (gt_mem hm).2
      · exact (gt_mem hm).2
    exact gt_none.1 hs x hx (by rw [← this, e])
  rw [mrgM_eq, adL_filter B O _ dO, adL_filter B T _ dT]
  have e4 : (O.filter fun x => (gtF (B.filterMap (mgB B O T)) x.nm).isNone && (gtF B x.nm).isNone) = O.filter fun y => (gtF B y.nm).isNone := by
    refine List.filter_congr fun y hy => ?_
    cases a : gtF B y.nm with
    | some _ => simp
    | none => rw [hM _ a]; rfl
  rw [e4]
  have e5 : (T.filter fun x => (gtF (B.filterMap (mgB B O T) ++ O.filter fun y => (gtF B y.nm).isNone) x.nm).isNone && (gtF B x.nm).isNone) = T.filter fun z => (gtF O z.nm).isNone && (gtF B z.nm).isNone := by
    refine List.filter_congr fun z hz => ?_
    cases a : gtF B z.nm with
    | some _ => simp
    | none =>
      rw [gtF_app, hM _ a, Option.none_or]
      congr 1
      cases b : gtF O z.nm with
      | none =>
        have : gtF (O.filter fun y => (gtF B y.nm).isNone) z.nm = none := by
          rw [gt_none] at b ⊢
          intro f hf
          exact b f (List.mem_filter.1 hf).1
        rw [this]
      | some y =>
        obtain ⟨y1, y2⟩ := gt_mem b
        cases c : gtF (O.filter fun y => (gtF B y.nm).isNone) z.nm with
        | some _ => rfl
        | none =>
          exact (gt_none.1 c y (List.mem_filter.2 ⟨y1, by rw [y2, a]; rfl⟩) y2).elim
  rw [e5]
  unfold mrg dTo
  rw [hd1, List.filterMap_append, fm_fm, e1, e2, e3]
theorem clsh_clM {B O T : List Ft} (hB : ∀ f ∈ B, f ≠ ft0) (hO : ∀ f ∈ O, f ≠ ft0) (hT : ∀ f ∈ T, f ≠ ft0) (s : ByteArray) : clsh (eds B O) (eds B T) s = clM B O T s := by
  unfold clsh clM
  have a := (eds_knd hB hO s).1
  have b := (eds_knd hB hT s).1
  have ra := knd_range B O s
  have rb := knd_range B T s
  cases e1 : eds B O s with
  | none =>
    rw [e1] at a
    have : ¬ 0 < knd B O s := fun h => by have := a.2 (by omega); cases this
    simp [this]
  | some p =>
    rw [e1] at a
    have h1 : 0 < knd B O s := by have := a.1 rfl; omega
    cases e2 : eds B T s with
    | none =>
      rw [e2] at b
      have : ¬ 0 < knd B T s := fun h => by have := b.2 (by omega); cases this
      simp [this]
    | some q =>
      rw [e2] at b
      have h2 : 0 < knd B T s := by have := b.1 rfl; omega
      obtain ⟨p1, p2⟩ := eds_some' e1
      obtain ⟨q1, q2⟩ := eds_some' e2
      simp only [h1, h2, decide_true, Bool.and_self, Bool.true_and]
      have hb : bE q p = fE ((gtF O s).getD ft0) ((gtF T s).getD ft0) := by
        rw [Bool.eq_iff_iff, bE_iff, fE_iff, ← p2, ← q2]
        constructor
        · intro h; rw [h]
        · intro h; exact Prod.ext (by rw [p1, q1]) h.symm
      rw [hb]
      cases x : fE ((gtF O s).getD ft0) ((gtF T s).getD ft0) with
      | false => simp
      | true =>
        have y := fE_iff.1 x
        have o1 := getD_ft0 hO s
        have t1 := getD_ft0 hT s
        rw [y, t1] at o1
        cases u : gtF O s <;> cases v : gtF T s <;> rw [u, v] at o1 <;> simp at o1 ⊢
/-- the model's answer is the program's -/
theorem MmAns.mg {B O T out : List Ft} {c : Int} {nms : List ByteArray} (h : MmAns B O T out c nms) : MgAns B O T out c nms := by
  obtain ⟨d, hd, h⟩ := h
  refine ⟨d, hd, ?_⟩
  rcases h with h | ⟨rfl, cl, hc, h⟩
  · exact .inl h
  · have hF := hd.zero
    have f1 := hF B (by simp)
    have f2 := hF O (by simp)
    have f3 := hF T (by simp)
    have e := mrg_eq (fun f hf => f1.nm0 hf) (fun f hf => f2.nm0 hf) (fun f hf => f3.nm0 hf) f1.dif f2.dif f3.dif
    refine .inr ⟨rfl, cl, ⟨hc.1, fun s => ?_⟩, ?_⟩
    · rw [hc.2]
      show clM B O T s = true ↔ clsh (eds B O) (eds B T) s = true
      rw [clsh_clM (fun f hf => f1.nm0 hf) (fun f hf => f2.nm0 hf) (fun f hf => f3.nm0 hf)]
    · rw [e]; exact h
theorem MmEnd.mg {B O T : List Ft} {w : World} {e : Ending} {w' : World} (h : MmEnd B O T w e w') : MgEnd B O T w e w' := by
  obtain ⟨⟨v, c, out, v3, nms, h1, h2, h3, h4⟩, h5⟩ := h
  exact ⟨⟨v, c, out, v3, nms, h1, h2.mg, h3, h4⟩, h5⟩
end Go.Proofs.Ytkkmikgeppkhiaa
