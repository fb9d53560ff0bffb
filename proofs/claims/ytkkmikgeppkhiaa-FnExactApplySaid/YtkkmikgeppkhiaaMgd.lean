/-
  The program's first fault of versions. The model's edits.
-/
import Derived.Test.YtkkmikgeppkhiaaFoP
import Derived.Test.YtkkmikgeppkhiaaMgc
import Derived.Test.YtkkmikgeppkhiaaMga
namespace Go.Proofs.Ytkkmikgeppkhiaa
open Go.ChangeShapes Go.WideShapes Go.ChangeAt Go.RowKit
set_option linter.unusedVariables false
set_option linter.unusedSimpArgs false

def fss (ls : List Ls) : List (List Ft) := ls.map Ls.fs
theorem Vg.app : ∀ {ls : List (List Ft)} {ms : List (List Ft)} {c : Int}, (∀ l ∈ ls, ∃ ab, Chk l 0 ab) → Vg ms c → Vg (ls ++ ms) c
  | [], ms, c, _, h => h
  | l :: ls, ms, c, h, k => by
    obtain ⟨ab, hc⟩ := h l (by simp)
    exact ⟨0, ab, hc, .inl ⟨rfl, Vg.app (fun l hl => h l (by simp [hl])) k⟩⟩
theorem vg_nil : Vg [] 0 := rfl
theorem vg_at {ls : List Ls} {i : Nat} {l : Ls} (hi : ls[i]? = some l) (h : ∀ j m, j < i → ls[j]? = some m → ∃ ab, Chk m.fs 0 ab) {c : Int} {ab : List ByteArray} (hc : Chk l.fs c ab) (h0 : c ≠ 0) : Vg (fss ls) c := by
  have hlt := (List.getElem?_eq_some_iff.1 hi).1
  have e : fss ls = fss (ls.take i) ++ (l.fs :: fss (ls.drop (i + 1))) := by
    unfold fss
    rw [← List.map_cons, ← List.map_append]
    congr 1
    have := List.take_append_drop i ls
    rw [List.drop_eq_getElem_cons hlt] at this
    obtain ⟨_, e2⟩ := List.getElem?_eq_some_iff.1 hi
    rw [e2] at this
    exact this.symm
  rw [e]
  refine Vg.app ?_ ⟨c, ab, hc, .inr ⟨h0, rfl⟩⟩
  intro x hx
  obtain ⟨m, hm, rfl⟩ := List.mem_map.1 hx
  obtain ⟨j, hj, rfl⟩ := List.mem_take_iff_getElem.1 hm
  exact h j _ (by omega) (List.getElem?_eq_getElem (by omega))
theorem vg_all {ls : List Ls} (h : ∀ (j : Nat) m, ls[j]? = some m → ∃ ab, Chk m.fs 0 ab) : Vg (fss ls) 0 := by
  have := Vg.app (ls := fss ls) (ms := []) (c := 0) (fun x hx => by
    obtain ⟨m, hm, rfl⟩ := List.mem_map.1 hx
    obtain ⟨j, hj, rfl⟩ := List.getElem_of_mem hm
    exact h j _ (List.getElem?_eq_getElem hj)) vg_nil
  rwa [List.append_nil] at this
/-- a list that a call is handed, whatever it holds -/
structure Lok (w : World) (l : Ls) : Prop where
  le : l.fs.length ≤ 1048576
  cap : l.fs.length ≤ l.cu
  at_ : SlG ftc 15 w l.u l.p l.po l.fs
  size : ∀ f ∈ l.fs, f.nm.size ≤ maxLen ∧ f.on.size ≤ maxLen ∧ f.ov.size ≤ maxLen
theorem Lok.bel {w W : World} {l : Ls} (h : Lok w l) (hb : Below w.heap.size w W) : Lok W l := ⟨h.le, h.cap, h.at_.bel hb, h.size⟩
set_option maxRecDepth 100000 in
set_option maxHeartbeats 4000000 in
theorem codes_any (g o n cu : Nat) (ls : List Ls) (w : World) (hl : ls.length = n) (hn : n ≤ 3) (hok : ∀ l ∈ ls, Lok w l) (ha : LsAt w g o ls) :
    Calls Try.prog 30 #[.slice (some ⟨g, o, none⟩) n cu] w fun e w' => (∃ c, e = .returned (.int .i64 c) ∧ Vc (fss ls) c) ∧ Below w.heap.size w w' := by
  have HA := hide ha
  have HL := hide hl
  have HOK := hide (fun i l (h : ls[i]? = some l) => (hok l (List.mem_of_getElem? h)))
  clear hl hok ha
  go_enter Try.func30, Try.ntmps30
  go_wp2_with fail
  go_loopw [12] (fun s W => ∃ (i : Nat), s = .int .i64 (i : Int) ∧ i ≤ n ∧ (∀ j m, j < i → ls[j]? = some m → m.fs.length ≤ 4096) ∧ W = w) (fun s _ => n - (intOf s).toNat)
  case atStart => exact ⟨0, rfl, by omega, fun j m hj => by omega, rfl⟩
  case round =>
    obtain ⟨i, rfl, hi, hb, hw⟩ := hrel
    subst hw
    have HBD := hide hb
    clear hb
    by_cases h : i < n
    · have iz : decide ((i : Int) < (n : Int)) = true := decide_eq_true (by omega)
      have i1 : (i : Int) < (n : Int) := by omega
      have i0 : (0 : Int) ≤ (i : Int) := by omega
      obtain ⟨l, hx⟩ := get_some (unhide HL) h
      have HX := hide hx
      have k0 := (unhide HA).2 i l hx
      simp only [Ls.v] at k0
      have hq : ∃ q, l.fs.length = q := ⟨_, rfl⟩
      obtain ⟨q, hq⟩ := hq
      have HQ := hide hq
      rw [hq] at k0
      clear hx hq
      by_cases hlong : 4096 < q
      · have d1 : decide ((4096 : Int) < (q : Int)) = true := decide_eq_true (by omega)
        have d2 : decide ((q : Int) > 4096) = true := decide_eq_true (by omega)
        go_wp2_with fail
        go_ret
        exact ⟨⟨2, rfl, .inl ⟨⟨l.fs, List.mem_map.2 ⟨l, List.mem_of_getElem? (unhide HX), rfl⟩, by rw [unhide HQ]; exact hlong⟩, rfl⟩⟩, Below.refl _ _⟩
      · have d1 : decide ((4096 : Int) < (q : Int)) = false := decide_eq_false (by omega)
        have d2 : decide ((q : Int) > 4096) = false := decide_eq_false (by omega)
        go_wp2_with fail
        go_roundw
        case rel =>
          refine ⟨i + 1, by simp, h, ?_, by first | rfl | trivial⟩
          intro j m hj hm
          by_cases e : j = i
          · subst e
            rw [unhide HX] at hm
            cases hm
            rw [unhide HQ]; omega
          · exact unhide HBD j m (by omega) hm
        case measure => simp only [intOf]; omega
    · have iz : decide ((i : Int) < (n : Int)) = false := decide_eq_false (by omega)
      have i1 : ¬ (i : Int) < (n : Int) := by omega
      have HLE := hide (fun l (hl : l ∈ fss ls) => (by
        obtain ⟨m, hm, rfl⟩ := List.mem_map.1 hl
        obtain ⟨j, hj, rfl⟩ := List.getElem_of_mem hm
        exact unhide HBD j _ (by have := unhide HL; omega) (List.getElem?_eq_getElem hj) : l.length ≤ 4096))
      go_wp2_with fail
      go_loopw [22] (fun s W => ∃ (i : Nat), s = .int .i64 (i : Int) ∧ i ≤ n ∧ (∀ j m, j < i → ls[j]? = some m → ∃ ab, Chk m.fs 0 ab) ∧ Below wr.heap.size wr W) (fun s _ => n - (intOf s).toNat)
      case atStart => exact ⟨0, rfl, by omega, fun j m hj => by omega, Below.refl _ _⟩
      case round =>
        obtain ⟨i, rfl, hi, hb, hw⟩ := hrel
        have HCK := hide hb
        have HW := hide hw
        clear hb hw
        rename_i wq _ _ _
        by_cases h : i < n
        · have iz : decide ((i : Int) < (n : Int)) = true := decide_eq_true (by omega)
          have i1 : (i : Int) < (n : Int) := by omega
          have i0 : (0 : Int) ≤ (i : Int) := by omega
          obtain ⟨l, hx⟩ := get_some (unhide HL) h
          have HX := hide hx
          have k0 := ((unhide HA).bel (unhide HW)).2 i l hx
          have hk := (unhide HOK i l hx).bel (unhide HW)
          simp only [Ls.v] at k0
          have hq : ∃ q, l.fs.length = q := ⟨_, rfl⟩
          obtain ⟨q, hq⟩ := hq
          have HFO := hide (orderOfP_any l.u l.p l.po q l.cu l.fs _ hq (by rw [← hq]; exact hk.le) hk.size hk.at_)
          rw [hq] at k0
          clear hx hq hk
          go_wp2_with fail
          refine (unhide HFO).mono ?_
          rintro e W1 ⟨⟨v1, c, v3, ab, rfl, hck, _, _⟩, hb1⟩
          have HC := hide hck
          have HW1 := hide (bc (unhide HW) hb1)
          clear hck hb1
          by_cases hc : c = 0
          · subst hc
            go_wp2_with fail
            go_roundw
            case rel =>
              refine ⟨i + 1, by simp, h, ?_, unhide HW1⟩
              intro j m hj hm
              by_cases e : j = i
              · subst e
                rw [unhide HX] at hm
                cases hm
                exact ⟨ab, unhide HC⟩
              · exact unhide HCK j m (by omega) hm
            case measure => simp only [intOf]; omega
          · have c0 : (c != 0) = true := by simpa using hc
            have HC0 := hide hc
            clear hc
            go_wp2_with fail
            go_ret
            exact ⟨⟨c, rfl, .inr ⟨unhide HLE, vg_at (unhide HX) (unhide HCK) (unhide HC) (unhide HC0)⟩⟩, unhide HW1⟩
        · have iz : decide ((i : Int) < (n : Int)) = false := decide_eq_false (by omega)
          have i1 : ¬ (i : Int) < (n : Int) := by omega
          go_wp2_with fail
          go_ret
          exact ⟨⟨0, rfl, .inr ⟨unhide HLE, vg_all fun j m hm => unhide HCK j m (by have := (List.getElem?_eq_some_iff.1 hm).1; have := unhide HL; omega) hm⟩⟩, unhide HW⟩
end Go.Proofs.Ytkkmikgeppkhiaa

namespace Go.Proofs.Ytkkmikgeppkhiaa
open Go.ChangeShapes Go.WideShapes Go.ChangeAt Go.RowKit
set_option linter.unusedVariables false
set_option linter.unusedSimpArgs false

theorem info54 : (Try.prog.info? 54).map (fun i => (i.zero, i.size, i.bytes)) = some (some (.agg #[.int .i64 0, .string ⟨#[]⟩]), 2, 24) := by kernel_rfl
theorem edc_one (es : List (Int × ByteArray)) : ∀ u ∈ flatG edc es, u.oneCell' = true := by
  induction es with
  | nil => intro u hu; cases hu
  | cons a l ih =>
    intro u hu
    simp only [flatG, edc, List.cons_append, List.nil_append, List.mem_cons] at hu
    rcases hu with rfl | rfl | hu
    · rfl
    · rfl
    · exact ih u hu
theorem own_ed {w W2 w1 : World} {B n : Nat} {v v' : Value} {l : List (Int × ByteArray)} {k : Int} {s : ByteArray} (hb : Below B w W2) (hB : B ≤ W2.heap.size) (h : w.ownsRow B 54 2 v n (flatG edc l)) (h' : w1.ownsRow B 54 2 v' (n + 1) (flatG edc l ++ [.int .i64 k, .string s])) (hg : W2.grownBy w1 v.ownBlock) :
    w1.ownsRow B 54 2 v' (n + 1) (flatG edc (l ++ [(k, s)])) ∧ Below B w w1 := by
  have := own_moreV hb hB h h' hg
  rw [flatG_append]
  exact this
/-- what a call of Edits ends with -/
def EdEnd (B L : List Ft) (w : World) (e : Ending) (w' : World) : Prop := (∃ v c es, e = .returned (.tuple #[v, .int .i64 c]) ∧ EdAns B L es c ∧ ERow w' w.heap.size v es) ∧ Below w.heap.size w w'
theorem edEnd_code {B L : List Ft} {w w' : World} {v : Value} {c : Int} (hc : Vc [B, L] c) (h0 : c ≠ 0) (hv : w'.ownsRow w.heap.size 54 2 v 0 []) (hb : Below w.heap.size w w') : EdEnd B L w (.returned (.tuple #[v, .int .i64 c])) w' :=
  ⟨⟨v, c, [], rfl, ⟨hc, by rw [if_neg h0]⟩, hv⟩, hb⟩
theorem vc2 {B L : List Ft} (hB : B.length ≤ 4096) (hL : L.length ≤ 4096) {c : Int} (h : Vg [B, L] c) : Vc [B, L] c := by
  refine .inr ⟨fun l hl => ?_, h⟩
  simp only [List.mem_cons, List.not_mem_nil, or_false] at hl
  rcases hl with rfl | rfl
  · exact hB
  · exact hL
theorem vg_two {B L : List Ft} {c : Int} {ab ab' : List ByteArray} (h : Chk B 0 ab) (k : Chk L c ab') : Vg [B, L] c := by
  refine ⟨0, ab, h, .inl ⟨rfl, ?_⟩⟩
  by_cases e : c = 0
  · subst e; exact ⟨0, ab', k, .inl ⟨rfl, rfl⟩⟩
  · exact ⟨c, ab', k, .inr ⟨e, rfl⟩⟩
theorem vg_fst {B : List Ft} {ls : List (List Ft)} {c : Int} {ab : List ByteArray} (h : Chk B c ab) (e : c ≠ 0) : Vg (B :: ls) c := ⟨c, ab, h, .inr ⟨e, rfl⟩⟩
theorem fm_take {α β : Type} {fs : List α} {k : Nat} {f : α} (g : α → Option β) (h : fs[k]? = some f) : (fs.take (k + 1)).filterMap g = (fs.take k).filterMap g ++ (g f).toList := by
  rw [List.take_add_one, h, Option.toList_some, List.filterMap_append]
  cases e : g f <;> simp [e]
set_option maxRecDepth 100000 in
set_option maxHeartbeats 8000000 in
theorem editsM_any (u1 : Option Addr) (p1 o1 n1 c1 : Nat) (B : List Ft) (u2 : Option Addr) (p2 o2 n2 c2 : Nat) (L : List Ft) (w : World) (hl1 : B.length = n1) (hl2 : L.length = n2) (h1 : Lok w ⟨u1, p1, o1, c1, B⟩) (h2 : Lok w ⟨u2, p2, o2, c2, L⟩) :
    Calls Try.prog 7 #[.slice u1 n1 c1, .slice u2 n2 c2] w (EdEnd B L w) := by
  obtain ⟨iE, hi, hx0, hx1, hx2⟩ := info_parts info54
  have HL1 := hide hl1
  have HL2 := hide hl2
  have H1 := hide h1
  have H2 := hide h2
  clear hl1 hl2 h1 h2
  have END0 := hide (fun (W : World) (c : Int) (hc : Vc [B, L] c) (h0 : c ≠ 0) (hb : Below w.heap.size w W) => (edEnd_code hc h0 (own_made W 54 w.heap.size 2 hb.size _ rfl) (ba hb _) : EdEnd B L w (.returned (.tuple #[.slice (some ⟨W.heap.size, 0, none⟩) 0 0, .int .i64 c])) (W.alloc (.cells #[] 54))))
  by_cases hlo : 4096 < n1 ∨ 4096 < n2
  · have HV : Hid (Vc [B, L] 2) := hide (.inl ⟨by
      rcases hlo with h | h
      · exact ⟨B, by simp, by rw [unhide HL1]; exact h⟩
      · exact ⟨L, by simp, by rw [unhide HL2]; exact h⟩, rfl⟩)
    by_cases ha : 4096 < n1
    · have d1 : decide ((4096 : Int) < (n1 : Int)) = true := decide_eq_true (by omega)
      have d2 : decide ((n1 : Int) > 4096) = true := decide_eq_true (by omega)
      clear hlo
      go_enter Try.func7, Try.ntmps7
      go_wp2_with fail
      refine bodyPost_ret (v := .tuple #[.slice (some ⟨w.heap.size, 0, none⟩) 0 0, .int .i64 2]) (by simp [results, Try.results7, go_sem]; done) rfl ?_
      exact unhide END0 _ 2 (unhide HV) (by decide) (Below.refl _ _)
    · have hb : 4096 < n2 := by omega
      have d1 : decide ((4096 : Int) < (n1 : Int)) = false := decide_eq_false (by omega)
      have d2 : decide ((n1 : Int) > 4096) = false := decide_eq_false (by omega)
      have d3 : decide ((4096 : Int) < (n2 : Int)) = true := decide_eq_true (by omega)
      have d4 : decide ((n2 : Int) > 4096) = true := decide_eq_true (by omega)
      clear hlo
      go_enter Try.func7, Try.ntmps7
      go_wp2_with fail
      refine bodyPost_ret (v := .tuple #[.slice (some ⟨w.heap.size, 0, none⟩) 0 0, .int .i64 2]) (by simp [results, Try.results7, go_sem]; done) rfl ?_
      exact unhide END0 _ 2 (unhide HV) (by decide) (Below.refl _ _)
  have a1 : decide ((4096 : Int) < (n1 : Int)) = false := decide_eq_false (by omega)
  have a2 : decide ((n1 : Int) > 4096) = false := decide_eq_false (by omega)
  have a3 : decide ((4096 : Int) < (n2 : Int)) = false := decide_eq_false (by omega)
  have a4 : decide ((n2 : Int) > 4096) = false := decide_eq_false (by omega)
  have HLE := hide (And.intro (by rw [unhide HL1]; omega : B.length ≤ 4096) (by rw [unhide HL2]; omega : L.length ≤ 4096))
  clear hlo
  have HC1 := hide (codeM_any u1 p1 o1 n1 c1 B w (unhide HL1) (by have := (unhide H1).le; rw [← unhide HL1]; exact this) (by have := (unhide H1).cap; rw [← unhide HL1]; exact this) (unhide H1).size (unhide H1).at_)
  have HC2 := hide (fun W (hb : Below w.heap.size w W) => codeM_any u2 p2 o2 n2 c2 L W (unhide HL2) (by have := (unhide H2).le; rw [← unhide HL2]; exact this) (by have := (unhide H2).cap; rw [← unhide HL2]; exact this) (unhide H2).size ((unhide H2).at_.bel hb))
  go_enter Try.func7, Try.ntmps7
  go_wp2_with fail
  refine (unhide HC1).mono ?_
  rintro e W1 ⟨⟨c, ab, rfl, hck⟩, hb1⟩
  have HK1 := hide hck
  have HB1 := hide hb1
  clear hck hb1
  by_cases hc : c = 0
  rotate_left
  · have c0 : (c != 0) = true := by simpa using hc
    have HC0 := hide hc
    clear hc
    go_wp2_with fail
    refine bodyPost_ret (v := .tuple #[.slice (some ⟨W1.heap.size, 0, none⟩) 0 0, .int .i64 c]) (by simp [results, Try.results7, go_sem]; done) rfl ?_
    exact unhide END0 _ c (vc2 (unhide HLE).1 (unhide HLE).2 (vg_fst (unhide HK1) (unhide HC0))) (unhide HC0) (unhide HB1)
  subst hc
  go_wp2_with fail
  refine (unhide HC2 _ (unhide HB1)).mono ?_
  rintro e W2 ⟨⟨c, ab', rfl, hck⟩, hb2⟩
  have HK2 := hide hck
  have HB2 := hide (bc (unhide HB1) hb2)
  clear hck hb2
  have HVC := hide (vc2 (unhide HLE).1 (unhide HLE).2 (vg_two (unhide HK1) (unhide HK2)))
  by_cases hc : c = 0
  rotate_left
  · have c0 : (c != 0) = true := by simpa using hc
    have HC0 := hide hc
    clear hc
    go_wp2_with fail
    refine bodyPost_ret (v := .tuple #[.slice (some ⟨W2.heap.size, 0, none⟩) 0 0, .int .i64 c]) (by simp [results, Try.results7, go_sem]; done) rfl ?_
    exact unhide END0 _ c (unhide HVC) (unhide HC0) (unhide HB2)
  subst hc
  have hF1 := (unhide HK1).zero.1
  have hF2 := (unhide HK2).zero.1
  have hn1 : n1 ≤ 30 := by rw [← unhide HL1]; exact hF1.len
  have hn2 : n2 ≤ 30 := by rw [← unhide HL2]; exact hF2.len
  clear hF1 hF2
  have HLS : Hid (LsAt (W2.alloc (.cells #[.slice u1 n1 c1, .slice u2 n2 c2] 27)) W2.heap.size 0 [⟨u1, p1, o1, c1, B⟩, ⟨u2, p2, o2, c2, L⟩]) := hide ⟨by simp, fun i l hi => by
    match i, hi with
    | 0, hi => cases hi; show _ = some (Value.slice u1 B.length c1); rw [unhide HL1]; simp [go_sem]
    | 1, hi => cases hi; show _ = some (Value.slice u2 L.length c2); rw [unhide HL2]; simp [go_sem]⟩
  have HNM := hide (namesOfM_any W2.heap.size 0 2 2 [⟨u1, p1, o1, c1, B⟩, ⟨u2, p2, o2, c2, L⟩] (W2.alloc (.cells #[.slice u1 n1 c1, .slice u2 n2 c2] 27)) rfl (by omega) (by
      intro l hl
      simp only [List.mem_cons, List.not_mem_nil, or_false] at hl
      rcases hl with rfl | rfl
      · show B.length ≤ 30; rw [unhide HL1]; exact hn1
      · show L.length ≤ 30; rw [unhide HL2]; exact hn2) (by
      intro l hl
      simp only [List.mem_cons, List.not_mem_nil, or_false] at hl
      rcases hl with rfl | rfl
      · exact ⟨(unhide H1).le, ((unhide H1).at_.bel (unhide HB2)).bel (ba (Below.refl _ _) _)⟩
      · exact ⟨(unhide H2).le, ((unhide H2).at_.bel (unhide HB2)).bel (ba (Below.refl _ _) _)⟩) (unhide HLS))
  rw [nms2] at HNM
  have HB3 := hide (ba (unhide HB2) (.cells #[.slice u1 n1 c1, .slice u2 n2 c2] 27))
  go_wp2_with fail
  refine (unhide HNM).mono ?_
  rintro e W3 ⟨v, rfl, hs, hb⟩
  have HN0 := hide (srt_nms (B.map Ft.nm ++ L.map Ft.nm))
  have HB4 := hide (bc (unhide HB3) hb)
  have hst : ∃ q, (srt (B.map Ft.nm ++ L.map Ft.nm)).length = q ∧ q ≤ 1048576 := ⟨_, rfl, by
    have := foldl_ins_len (B.map Ft.nm ++ L.map Ft.nm) []
    unfold srt
    simp only [List.length_nil, List.length_append, List.length_map, unhide HL1, unhide HL2] at this
    omega⟩
  obtain ⟨q, hq, hq1⟩ := hst
  obtain ⟨uS, cS, rfl, _⟩ := own_form hs
  have hSt := (SRow.stAt hs).2
  rw [hq]
  have HQ := hide hq
  have HST := hide hSt
  clear hs hb hq hSt
  generalize srt (B.map Ft.nm ++ L.map Ft.nm) = ns at *
  go_wp2_with fail
  go_loopw [9, 10] (fun v s W => ∃ (i m : Nat), s = .int .i64 (i : Int) ∧ i ≤ q ∧ m ≤ i ∧ ((ns.take i).filterMap (edF B L)).length = m ∧ W.ownsRow W3.heap.size 54 2 v m (flatG edc ((ns.take i).filterMap (edF B L))) ∧ Below W3.heap.size W3 W) (fun _ s _ => q - (intOf s).toNat)
  case atStart => exact ⟨0, 0, rfl, by omega, by omega, rfl, own_made W3 54 W3.heap.size 2 (Nat.le_refl _) _ rfl, ba (Below.refl _ _) _⟩
  case round =>
    obtain ⟨i, m, rfl, hi1, hmi, hlen, hrow, hw3⟩ := hrel
    have HR := hide hrow
    have HW := hide (bc (unhide HB4) hw3)
    have HW3 := hide hw3
    have HLN := hide hlen
    obtain ⟨ug, cg, rfl, _⟩ := own_form hrow
    clear hrow hlen hw3
    by_cases h : i < q
    · have i1 : (i : Int) < (q : Int) := by omega
      have i0 : (0 : Int) ≤ (i : Int) := Int.natCast_nonneg _
      have iz : decide ((i : Int) < (q : Int)) = true := decide_eq_true i1
      obtain ⟨s, hx⟩ := get_some (unhide HQ) h
      have hne : ns ≠ [] := by intro e; subst e; cases hx
      obtain ⟨g, o, rfl, hgl, hc⟩ := ((unhide HST).bel (unhide HW3)) hne
      have k0 := hc i s hx
      have HTK := hide (fm_take (edF B L) hx)
      have HED := hide (editM_any u1 p1 o1 n1 c1 B u2 p2 o2 n2 c2 L s wr (unhide HL1) (by omega) ((unhide H1).at_.bel (unhide HW)) (unhide HL2) (by omega) ((unhide H2).at_.bel (unhide HW)))
      have hkr := knd_range B L s
      have hef : edF B L s = if knd B L s = 0 then none else some (knd B L s, s) := rfl
      clear hx hc hne
      go_wp2_with fail
      refine (unhide HED).mono ?_
      rintro e W4 ⟨rfl, hb4⟩
      have HW4 := hide (bc (unhide HW) hb4)
      have HW34 := hide (bc (unhide HW3) hb4)
      have HR4 := hide (own_bel (unhide HR) hb4)
      have kk := keep1 hb4 k0
      have kl := cell_lt kk
      have hsz4 := hb4.size
      clear hb4 k0
      generalize knd B L s = kd at *
      by_cases hk : kd = 0
      · rw [if_pos hk] at hef
        have d1 : decide (kd > 0) = false := decide_eq_false (by omega)
        have d2 : decide ((0 : Int) < kd) = false := decide_eq_false (by omega)
        have HTK2 : Hid ((ns.take (i + 1)).filterMap (edF B L) = (ns.take i).filterMap (edF B L)) := hide (by rw [unhide HTK, hef]; simp)
        clear hef hkr hk
        go_wp2_with fail
        go_roundw
        case rel => exact ⟨i + 1, m, by simp, h, by omega, by rw [unhide HTK2, unhide HLN], by rw [unhide HTK2]; exact unhide HR4, unhide HW34⟩
        case measure => simp only [intOf]; omega
      · rw [if_neg hk] at hef
        have hkp : 0 < kd := by omega
        have d1 : decide (kd > 0) = true := decide_eq_true (by omega)
        have d2 : decide ((0 : Int) < kd) = true := decide_eq_true (by omega)
        have HTK2 : Hid ((ns.take (i + 1)).filterMap (edF B L) = (ns.take i).filterMap (edF B L) ++ [(kd, s)]) := hide (by rw [unhide HTK, hef]; rfl)
        clear hef hkr hk hkp
        go_wp2_with (at_builtin; refine unhide ?_)
        refine hide ?_
        refine wpList_append_own _ rfl _ _ 24 rfl W3.heap.size 54 iE _ 2 24 Try.underlying24 hi hx0 hx1 hx2 rfl (by decide) _ m _ rfl ((unhide HR4).alloc _) _ 1 1 [.int .i64 kd, .string s] rfl rfl (by first | exact news_cells _ _ rfl | exact news_cells _ _ (by simp)) (by intro u hu; simp at hu; rcases hu with rfl | rfl <;> rfl) (by unfold maxLen; omega) (by omega) (Nat.le_trans (unhide HW34).size (by simp)) ?_
        intro v' w1 hown' hgrow _
        have R := hide (own_ed (Below.alloc (Below.refl W3.heap.size _) (unhide HW34).size _) (Nat.le_trans (unhide HW34).size (by simp)) (unhide HR4) hown' hgrow)
        clear hown' hgrow
        go_wp2_with fail
        go_roundw
        case rel => exact ⟨i + 1, m + 1, by simp, h, by omega, by rw [unhide HTK2, List.length_append, unhide HLN]; rfl, by rw [unhide HTK2]; exact (unhide R).1, (unhide HW34).trans (unhide R).2⟩
        case measure => simp only [intOf]; omega
    · have i1 : ¬ (i : Int) < (q : Int) := by omega
      have iz : decide ((i : Int) < (q : Int)) = false := decide_eq_false i1
      have HE : Hid (ns.take i = ns) := hide (List.take_of_length_le (by rw [unhide HQ]; omega))
      go_wp2_with fail
      refine bodyPost_ret (v := .tuple #[.slice ug m cg, .int .i64 0]) (by simp [results, Try.results7, go_sem]; done) rfl ?_
      have h1 := unhide HR
      have h2 := unhide HLN
      rw [unhide HE] at h1 h2
      refine ⟨⟨_, 0, _, rfl, ⟨unhide HVC, by rw [if_pos rfl]; exact edl_of (unhide HN0)⟩, ?_⟩, unhide HW⟩
      unfold ERow
      rw [h2]
      exact own_mono h1 (unhide HB4).size
end Go.Proofs.Ytkkmikgeppkhiaa
