/-
  The model's texts: whether one is among them; sorted, each once. Changes done to lists. Changes kept by names: whether a name lacks, a map cleared, a map copied. Changes kept by names. The model's sorted texts, each once. The model's names of lists. Edits, plain: both sides' lists are one. The model's features of a name. The model's word on a name; the first code; all names.
-/
import Derived.Test.YtkkmikgeppkhiaaStRows
import Derived.Test.YtkkmikgeppkhiaaMra
import Derived.Test.YtkkmikgeppkhiaaChMath
import Derived.Deep.RegionLaw
import Derived.Test.YtkkmikgeppkhiaaFoM
import Derived.Test.YtkkmikgeppkhiaaCkM
namespace Go.Proofs.Ytkkmikgeppkhiaa
open Go.ChangeShapes Go.WideShapes Go.ChangeAt Go.RowKit
set_option linter.unusedVariables false
set_option linter.unusedSimpArgs false

/-- fewer of a row -/
theorem own_pop {w : World} {B t k g n m cap : Nat} {L : List Value} (h : w.ownsRow B t k (.slice (some ⟨g, 0, none⟩) n cap) n L) (hm : m ≤ n) : w.ownsRow B t k (.slice (some ⟨g, 0, none⟩) m cap) m (L.take (m * k)) := by
  have hl := h.1
  rcases h.2 with ⟨h1, _⟩ | ⟨g', cap', cur, hv, hB, hh, hn, hx, hs, ht⟩
  · cases h1
  · cases hv
    have hmk : m * k ≤ n * k := Nat.mul_le_mul_right k hm
    refine ⟨by rw [List.length_take, hl]; exact Nat.min_eq_left hmk, .inr ⟨g, cap, cur, rfl, hB, hh, Nat.le_trans hm hn, hx, hs, ?_⟩⟩
    rw [← ht, List.take_take, Nat.min_eq_left hmk]
theorem own_sm {w : World} {B t k n : Nat} {v : Value} {L : List Value} (h : w.ownsRow B t k v n L) (hv : v ≠ .slice none 0 0) : ∃ g cap, v = .slice (some ⟨g, 0, none⟩) n cap ∧ B ≤ g ∧ g < w.heap.size ∧ n ≤ cap ∧ cap ≤ maxLen := by
  rcases h.2 with ⟨h1, _⟩ | ⟨g, cap, cur, hv', hB, hh, hn, hx, hs, ht⟩
  · exact absurd h1 hv
  · exact ⟨g, cap, hv', hB, (Array.getElem?_eq_some_iff.1 hh).1, hn, hx⟩
theorem own_cells {w : World} {B t k n g cap : Nat} {L : List Value} (h : w.ownsRow B t k (.slice (some ⟨g, 0, none⟩) n cap) n L) {j : Nat} {x : Value} (hj : L[j]? = some x) : w.cell? ⟨g, j, none⟩ = some x := by
  rcases h.2 with ⟨h1, _⟩ | ⟨g', cap', cur, hv', hB, hh, hn, hx, hs, ht⟩
  · cases h1
  · cases hv'
    have h1 : (cur.toList.take (n * k))[j]? = some x := by rw [ht]; exact hj
    simp only [World.cell?]
    rw [hh]
    rw [List.getElem?_take] at h1
    split at h1
    · simpa using h1
    · cases h1
theorem own_moreV {B t k n m : Nat} {wr W2 w1 : World} {v v' : Value} {L news : List Value} (hbel : Below B wr W2) (hB : B ≤ W2.heap.size) (hown : wr.ownsRow B t k v n L)
    (hown' : w1.ownsRow B t k v' (n + m) (L ++ news)) (hgrow : W2.grownBy w1 v.ownBlock) :
    w1.ownsRow B t k v' (n + m) (L ++ news) ∧ Below B wr w1 :=
  ⟨hown', hbel.grown hgrow hB (fun j hj => (own_ge hown j hj).1)⟩
theorem own_firstV {B t k m : Nat} {wr W2 w1 : World} {g : Nat} {v' : Value} {news : List Value} (hbel : Below B wr W2) (hB : B ≤ W2.heap.size) (hg : B ≤ g)
    (hown' : w1.ownsRow B t k v' (0 + m) ([] ++ news)) (hgrow : W2.grownBy w1 (Value.slice (.some ⟨g, 0, none⟩) 0 0).ownBlock) :
    w1.ownsRow B t k v' m news ∧ Below B wr w1 :=
  ⟨by have := hown'; rw [Nat.zero_add] at this; exact this, hbel.grown hgrow hB (fun j hj => by cases hj; exact hg)⟩
theorem strs_one {L : List ByteArray} : ∀ u ∈ strs L, u.oneCell' = true := by
  intro u hu
  obtain ⟨x, _, rfl⟩ := List.mem_map.1 hu
  rfl
theorem strs_len (L : List ByteArray) : (strs L).length = L.length := by simp [strs]
theorem strs_at {L : List ByteArray} {i : Nat} {s : ByteArray} (h : L[i]? = some s) : (strs L)[i]? = some (.string s) := by simp [strs, h]
theorem strs_app (a b : List ByteArray) : strs (a ++ b) = strs a ++ strs b := by simp [strs]
theorem hasT_no {l : List ByteArray} {s : ByteArray} (h : ∀ (j : Nat) (t : ByteArray), l[j]? = some t → sEq t s = false) : hasT l s = false := by
  unfold hasT
  rw [List.any_eq_false]
  intro t ht
  obtain ⟨j, hj, rfl⟩ := List.getElem_of_mem ht
  rw [h j _ (List.getElem?_eq_getElem hj)]
  simp
theorem hasT_yes {l : List ByteArray} {s : ByteArray} {i : Nat} {t : ByteArray} (h : l[i]? = some t) (e : sEq t s = true) : hasT l s = true := by
  unfold hasT
  rw [List.any_eq_true]
  exact ⟨t, List.mem_of_getElem? h, e⟩
set_option maxHeartbeats 2000000 in
theorem has_any (u : Option Addr) (n cu : Nat) (l : List ByteArray) (s : ByteArray) (w : World) (hl : l.length = n) (hn : n ≤ 1048576) (hu : StAt w u l) :
    Calls Try.prog 45 #[.slice u n cu, .string s] w fun e w' => e = .returned (.bool (hasT l s)) ∧ w' = w := by
  have HU := hide hu
  have HL := hide hl
  clear hu hl
  go_enter Try.func45, Try.ntmps45
  go_wp2
  go_loopw [5] (fun z W => ∃ i : Nat, z = .int .i64 (i : Int) ∧ i ≤ n ∧ (∀ j g, j < i → l[j]? = some g → sEq g s = false) ∧ W = w) (fun z _ => n - (intOf z).toNat)
  case atStart => exact ⟨0, rfl, Nat.zero_le _, fun j g hj => by omega, rfl⟩
  case round =>
    obtain ⟨i, rfl, hi, hno, hw⟩ := hrel
    subst hw
    have HN := hide hno
    clear hno
    by_cases h : i < n
    · have i1 : (i : Int) < (n : Int) := by omega
      have i0 : (0 : Int) ≤ (i : Int) := Int.natCast_nonneg _
      have iz : decide ((i : Int) < (n : Int)) = true := decide_eq_true i1
      obtain ⟨f, hx⟩ := get_some (unhide HL) h
      have hne : l ≠ [] := by intro e; subst e; cases hx
      obtain ⟨g, o, rfl, _, hc⟩ := (unhide HU) hne
      have k0 := hc i f hx
      have HX := hide hx
      clear hx hc hne
      cases hq : sEq f s
      · have hq' : (f.toList == s.toList) = false := hq
        have HQ := hide hq
        clear hq
        go_wp2_with fail
        go_roundw
        case rel =>
          refine ⟨i + 1, by simp, h, ?_, by first | rfl | trivial⟩
          intro j g hj hg
          by_cases e : j = i
          · subst e
            rw [unhide HX] at hg
            cases hg
            exact unhide HQ
          · exact unhide HN j g (by omega) hg
        case measure => simp only [intOf]; omega
      · have hq' : (f.toList == s.toList) = true := hq
        have HQ := hide hq
        clear hq
        go_wp2_with fail
        go_ret
        exact ⟨ret_bool (hasT_yes (unhide HX) (unhide HQ)).symm, rfl⟩
    · have i1 : ¬ (i : Int) < (n : Int) := by omega
      have iz : decide ((i : Int) < (n : Int)) = false := decide_eq_false i1
      go_wp2_with fail
      go_ret
      refine ⟨ret_bool (hasT_no fun j g hg => unhide HN j g ?_ hg).symm, rfl⟩
      have := (List.getElem?_eq_some_iff.1 hg).1
      rw [unhide HL] at this
      omega
/-- how far the lesser ones reach -/
theorem psn_step {A : List ByteArray} {p : ByteArray} {k : Nat} (hk : k ≤ psn A p) : (k < psn A p → ∃ q, A[k]? = .some q ∧ tl q p = true) ∧ (¬ k < psn A p → k = psn A p ∧ (k = A.length ∨ ∃ q, A[k]? = .some q ∧ tl q p = false)) ∧ psn A p ≤ A.length := by
  have hle : psn A p ≤ A.length := (List.takeWhile_sublist _).length_le
  refine ⟨fun h => ?_, fun h => ⟨by omega, ?_⟩, hle⟩
  · have h1 : k < (A.takeWhile fun a => tl a p).length := h
    have h2 := List.getElem?_eq_getElem h1
    have h3 := List.mem_of_getElem? h2
    have h4 := List.all_eq_true.1 (List.all_takeWhile (p := fun a => tl a p) (l := A)) _ h3
    have h5 : (A.takeWhile fun a => tl a p)[k]? = A[k]? := by
      have := List.takeWhile_prefix (l := A) (fun a => tl a p)
      obtain ⟨r, hr⟩ := this
      rw [← hr, List.getElem?_append_left h1]
      congr 1
      rw [hr]
    exact ⟨_, h5 ▸ h2, h4⟩
  · by_cases he : k = A.length
    · exact .inl he
    · right
      have hk2 : k < A.length := by omega
      refine ⟨_, List.getElem?_eq_getElem hk2, ?_⟩
      have ek : k = psn A p := by omega
      have hd : A.dropWhile (fun a => tl a p) ≠ [] := by
        intro e
        have := List.takeWhile_append_dropWhile (p := fun a => tl a p) (l := A)
        rw [e, List.append_nil] at this
        have : A.length = psn A p := by unfold psn; rw [this]
        omega
      have h1 := List.head_dropWhile_not (fun a => tl a p) hd
      have h2 : A[k] = (A.dropWhile fun a => tl a p).head hd := by
        have e := List.takeWhile_append_dropWhile (p := fun a => tl a p) (l := A)
        have : A[k]? = ((A.takeWhile fun a => tl a p) ++ A.dropWhile fun a => tl a p)[k]? := by rw [e]
        rw [List.getElem?_append_right (by show psn A p ≤ k; omega)] at this
        rw [show k - (A.takeWhile fun a => tl a p).length = 0 by show k - psn A p = 0; omega] at this
        rw [List.getElem?_eq_getElem hk2, ← List.head?_eq_getElem?, List.head?_eq_some_head hd] at this
        exact Option.some.inj this
      rw [h2]
      simpa using h1
end Go.Proofs.Ytkkmikgeppkhiaa

namespace Go.Proofs.Ytkkmikgeppkhiaa
open Go.ChangeShapes Go.WideShapes Go.ChangeAt Go.RowKit Go.Maps Go.WideMaps
set_option linter.unusedVariables false
set_option linter.unusedSimpArgs false

theorem info57 : (Try.prog.info? 57).map (fun i => (i.zero, i.size, i.bytes)) = some (some (ftv ft0), 15, 144) := by kernel_rfl
theorem filterMap_take {fs : List Ft} {k : Nat} {f : Ft} (g : Ft → Option Ft) (h : fs[k]? = some f) : (fs.take (k + 1)).filterMap g = (fs.take k).filterMap g ++ (g f).toList := by
  rw [List.take_add_one, h, Option.toList_some, List.filterMap_append]
  cases e : g f <;> simp [e]
theorem filter_take {fs : List Ft} {k : Nat} {f : Ft} (g : Ft → Bool) (h : fs[k]? = some f) : (fs.take (k + 1)).filter g = (fs.take k).filter g ++ (if g f then [f] else []) := by
  rw [List.take_add_one, h, Option.toList_some, List.filter_append]
  cases e : g f <;> simp [e]
theorem flat_len (l : List Ft) : (flatG ftc l).length = l.length * 15 := flatG_len (c := ftc) (k := 15) (fun _ => rfl) l
theorem flat_one (x : Ft) : flatG ftc [x] = ftc x := by simp [flatG]
theorem news_F {F : Array Value} {x : Ft} (h : Fl F x) {W : World} {e : TypeId} (g : Nat) (hg : g = W.heap.size) : ∀ (j : Nat) (u : Value), (ftc x)[j]? = some u → (W.alloc (.cells F e)).cell? ((⟨g, 0, none⟩ : Addr).add j) = some u := by
  intro j u hu
  rw [add_none, Nat.zero_add]
  exact (ab_new W e F g hg).cell (by rw [h.l]; exact hu)
theorem fold_F {F : Array Value} {x : Ft} (h : Fl F x) : Array.foldl (fun (cs : Array Value) (x : Value × Nat) => cs.setIfInBounds x.2 x.1) #[.string ⟨#[]⟩, .string ⟨#[]⟩, .string ⟨#[]⟩, .int .i64 0, .int .i64 0, .int .i64 0, .int .i64 0, .int .i64 0, .int .i64 0, .int .i64 0, .int .i64 0, .int .i64 0, .int .i64 0, .int .i64 0, .int .i64 0] F.zipIdx 0 15 = F := by
  have e : F = #[.string x.nm, .string x.on, .string x.ov, .int .i64 x.kd, .int .i64 x.sd, .int .i64 x.x0, .int .i64 x.y0, .int .i64 x.z0, .int .i64 x.x1, .int .i64 x.y1, .int .i64 x.z1, .int .i64 x.ct, .int .i64 x.dx, .int .i64 x.dy, .int .i64 x.dz] := by
    rw [← Array.toList_inj, h.l]; rfl
  subst e
  simp
/-- one more feature in a row -/
theorem own_ft {w W2 w1 : World} {B n : Nat} {v v' : Value} {l : List Ft} {x : Ft} (hb : Below B w W2) (hB : B ≤ W2.heap.size) (h : w.ownsRow B 57 15 v n (flatG ftc l)) (h' : w1.ownsRow B 57 15 v' (n + 1) (flatG ftc l ++ ftc x)) (hg : W2.grownBy w1 v.ownBlock) :
    w1.ownsRow B 57 15 v' (n + 1) (flatG ftc (l ++ [x])) ∧ Below B w w1 := by
  have := own_moreV hb hB h h' hg
  rw [flatG_append, flat_one]
  exact this
set_option maxRecDepth 100000 in
set_option maxHeartbeats 8000000 in
theorem done_any (b nm : Nat) (f : ByteArray → Option Two) (u1 : Option Addr) (p1 o1 n1 c1 : Nat) (B : List Ft) (u2 : Option Addr) (p2 o2 n2 c2 : Nat) (L : List Ft) (w : World) (hm : Mp w b nm f) (h1 : Lst w u1 p1 o1 n1 B) (h2 : Lst w u2 p2 o2 n2 L) :
    Calls Try.prog 43 #[.map (some b), .slice u1 n1 c1, .slice u2 n2 c2] w fun e w' => ∃ v, e = .returned v ∧ w'.ownsRow w.heap.size 57 15 v (dTo f B L).length (flatG ftc (dTo f B L)) ∧ Below w.heap.size w w' := by
  obtain ⟨iF, hi, hx0, hx1, hx2⟩ := info_parts info57
  have HM := hide hm
  have H1 := hide h1
  have H2 := hide h2
  have HL1 := hide h1.len
  have HL2 := hide h2.len
  have hn1 := h1.le
  have hn2 := h2.le
  clear hm h1 h2
  go_enter Try.func43, Try.ntmps43
  go_wp2_with fail
  go_loopw [7, 15] (fun v s W => ∃ i m : Nat, s = .int .i64 (i : Int) ∧ i ≤ n1 ∧ m ≤ i ∧ ((B.take i).filterMap (dnB f)).length = m ∧ W.ownsRow w.heap.size 57 15 v m (flatG ftc ((B.take i).filterMap (dnB f))) ∧ Below w.heap.size w W) (fun _ s _ => n1 - (intOf s).toNat)
  case atStart => exact ⟨0, 0, rfl, Nat.zero_le _, Nat.le_refl _, rfl, own_nil _ _ _ _, Below.refl _ _⟩
  case round =>
    obtain ⟨i, m, rfl, hi1, hmi, hlen, hrow, hw⟩ := hrel
    have HR := hide hrow
    have HW := hide hw
    have HLN := hide hlen
    obtain ⟨ug, cg, rfl, _⟩ := own_form hrow
    clear hrow hw hlen
    by_cases h : i < n1
    · have i1 : (i : Int) < (n1 : Int) := by omega
      have i0 : (0 : Int) ≤ (i : Int) := Int.natCast_nonneg _
      have iz : decide ((i : Int) < (n1 : Int)) = true := decide_eq_true i1
      obtain ⟨x, hx⟩ := get_some (unhide HL1) h
      obtain ⟨F, hF⟩ := fl_ex x
      obtain ⟨rfl, hpw, hld⟩ := SlG.load hF ((unhide H1).bel (unhide HW)).at_ hx
      have LD := hide hld
      have HI := hide hF.info
      have HO := hide hF.one
      have HF := hide hF
      have hfold := fold_F hF
      have hsz := hF.size
      have hns := (unhide H1).size x (List.mem_of_getElem? hx)
      have HNS := hide hns
      have HTK := hide (filterMap_take (dnB f) hx)
      have HLF := hide (fun g W (h : ab W g 57 F) => hF.load0 h)
      have cF0 : F[0]'(by omega) = .string x.nm := by
        have c0 : F[0]? = some (.string x.nm) := by rw [← Array.getElem?_toList, hF.l]; rfl
        rw [Array.getElem?_eq_getElem (by omega)] at c0
        exact Option.some.inj c0
      have HN := hide (ab_new wr 57 F _ rfl)
      have HWN := hide (ba (unhide HW) (.cells F 57))
      have HMN := hide ((unhide HM).bel (unhide HWN))
      have HRN := hide (own_bel (unhide HR) (ba (Below.refl _ _) (.cells F 57)))
      have HLA := hide (fun W (h : Below w.heap.size w W) => lacks_any b nm f x.nm W ((unhide HM).bel h) (unhide HNS))
      clear hld hx hF hns
      go_wp2_with (first | refine wpl_loadAt rfl 57 (.tmp 17) rfl _ rfl _ (unhide LD) ?_ | refine wpl_putNew rfl 57 _ _ rfl wr _ F 57 rfl rfl (unhide HI) (by rw [hsz]; rfl) (unhide HO) ?_)
      refine (unhide HLA _ (unhide HWN)).mono ?_
      rintro e W1 ⟨rfl, hb1⟩
      have HN1 := hide ((unhide HN).bel hb1)
      have HW1 := hide (bc (unhide HWN) hb1)
      have HM1 := hide ((unhide HMN).bel hb1)
      have HR1 := hide (own_bel (unhide HRN) hb1)
      have hlt1 := (unhide HW1).size
      clear hb1 cF0
      have hdn : dnB f x = match f x.nm with | none => some x | some p => if fE p.2 ft0 then none else some p.2 := rfl
      have HLK := hide ((unhide HM1).get und61 x.nm (unhide HNS))
      cases hfx : f x.nm with
      | none =>
        rw [hfx] at hdn
        have HTK2 : Hid ((B.take (i + 1)).filterMap (dnB f) = (B.take i).filterMap (dnB f) ++ [x]) := hide (by rw [unhide HTK, hdn]; rfl)
        clear hdn hfx
        go_wp2_with (first
          | refine wpl_loadAt rfl 57 (.tmp 9) rfl _ rfl _ (unhide HLF _ _ (unhide HN1)) ?_
          | (at_builtin; refine unhide ?_))
        refine hide ?_
        refine wpList_append_own _ rfl _ _ 27 rfl w.heap.size 57 iF _ 15 144 Try.underlying27 hi hx0 hx1 hx2 rfl (by decide) _ m _ rfl (own_bel (unhide HR1) (ba (Below.refl _ _) _)) _ 1 1 (ftc x) rfl rfl (news_F (unhide HF) _ rfl) (ftc_one x) (by unfold maxLen; omega) (by omega) (by simp; omega) ?_
        intro v' w1 hown' hgrow _
        have R := hide (own_ft (Below.alloc (Below.refl w.heap.size _) (unhide HW1).size _) (by have := (unhide HW1).size; simp; omega) (unhide HR1) hown' hgrow)
        clear hown' hgrow
        go_wp2_with fail
        go_roundw
        case rel => exact ⟨i + 1, m + 1, by simp, h, by omega, by rw [unhide HTK2, List.length_append, unhide HLN]; rfl, by rw [unhide HTK2]; exact (unhide R).1, (unhide HW1).trans (unhide R).2⟩
        case measure => simp only [intOf]; omega
      | some p =>
        rw [hfx] at hdn
        rw [hfx] at HLK
        simp only [Option.getD_some] at HLK
        simp only at hdn
        have hc1 : W1.cell? ⟨wr.heap.size, 0, none⟩ = some (.string x.nm) := (unhide HN1).cell (by rw [(unhide HF).l]; rfl)
        obtain ⟨P, hP⟩ := bl_ex p
        obtain ⟨G, hG⟩ := fl_ex p.2
        have hlk := unhide HLK
        rw [hP.v] at hlk
        have HIP := hide hP.info
        have HOP := hide hP.one
        have hsP := hP.size
        have HLP := hide (fun g W (h : ab W g 68 P) => hP.load h)
        have HLG := hide (fun g W (h : ab W g 68 P) => hP.load2 hG h)
        have HLO := hide (fun W => lost_any p W)
        rw [hP.v] at HLO
        have HG := hide hG
        have hfoldG := fold_F hG
        have hsG := hG.size
        have HNP := hide (ab_new W1 68 P _ rfl)
        have HW2 := hide (ba (unhide HW1) (.cells P 68))
        have HR2 := hide (own_bel (unhide HR1) (ba (Below.refl _ _) (.cells P 68)))
        clear hfx hP hG HLK hfold
        go_wp2_with (first | refine wpl_putNew rfl 68 _ _ rfl W1 _ P 68 rfl rfl (unhide HIP) (by rw [hsP]; rfl) (unhide HOP) ?_ | refine wpl_loadAt rfl 68 (.tmp 10) rfl _ rfl _ (unhide HLP _ _ (unhide HNP)) ?_)
        refine (unhide HLO _).mono ?_
        rintro e W3 ⟨rfl, hb3⟩
        have HNP3 := hide ((unhide HNP).bel hb3)
        have HW3 := hide (bc (unhide HW2) hb3)
        have HR3 := hide (own_bel (unhide HR2) hb3)
        clear hb3 hlk hc1
        cases hq : fE p.2 ft0
        · rw [hq] at hdn
          have HTK2 : Hid ((B.take (i + 1)).filterMap (dnB f) = (B.take i).filterMap (dnB f) ++ [p.2]) := hide (by rw [unhide HTK, hdn]; rfl)
          clear hdn hq
          go_wp2_with (first
            | refine wpl_loadAt rfl 57 (.tmp 35) rfl _ rfl _ (unhide HLG _ _ (unhide HNP3)) ?_
            | (at_builtin; refine unhide ?_))
          refine hide ?_
          refine wpList_append_own _ rfl _ _ 27 rfl w.heap.size 57 iF _ 15 144 Try.underlying27 hi hx0 hx1 hx2 rfl (by decide) _ m _ rfl (own_bel (unhide HR3) (ba (Below.refl _ _) _)) _ 1 1 (ftc p.2) rfl rfl (news_F (unhide HG) _ rfl) (ftc_one p.2) (by unfold maxLen; omega) (by omega) (Nat.le_trans (unhide HW3).size (by simp)) ?_
          intro v' w1 hown' hgrow _
          have R := hide (own_ft (Below.alloc (Below.refl w.heap.size _) (unhide HW3).size _) (Nat.le_trans (unhide HW3).size (by simp)) (unhide HR3) hown' hgrow)
          clear hown' hgrow
          go_wp2_with fail
          go_roundw
          case rel => exact ⟨i + 1, m + 1, by simp, h, by omega, by rw [unhide HTK2, List.length_append, unhide HLN]; rfl, by rw [unhide HTK2]; exact (unhide R).1, (unhide HW3).trans (unhide R).2⟩
          case measure => simp only [intOf]; omega
        · rw [hq] at hdn
          have HTK2 : Hid ((B.take (i + 1)).filterMap (dnB f) = (B.take i).filterMap (dnB f)) := hide (by rw [unhide HTK, hdn]; simp)
          clear hdn hq
          go_wp2_with fail
          go_roundw
          case rel => exact ⟨i + 1, m, by simp, h, by omega, by rw [unhide HTK2, unhide HLN], by rw [unhide HTK2]; exact unhide HR3, unhide HW3⟩
          case measure => simp only [intOf]; omega
    · have i1 : ¬ (i : Int) < (n1 : Int) := by omega
      have iz : decide ((i : Int) < (n1 : Int)) = false := decide_eq_false i1
      have HB : Hid ((B.take i).filterMap (dnB f) = B.filterMap (dnB f)) := hide (by rw [List.take_of_length_le (by rw [unhide HL1]; omega)])
      have HRB := hide (unhide HR)
      have HLB := hide (unhide HLN)
      rw [unhide HB] at HRB HLB
      have hmn : m ≤ 4096 := by omega
      clear HR HLN HB
      go_wp2_with fail
      go_loopw [7, 42] (fun v s W => ∃ i q : Nat, s = .int .i64 (i : Int) ∧ i ≤ n2 ∧ q ≤ m + i ∧ m + ((L.take i).filter (dnL f)).length = q ∧ W.ownsRow w.heap.size 57 15 v q (flatG ftc (B.filterMap (dnB f) ++ (L.take i).filter (dnL f))) ∧ Below w.heap.size w W) (fun _ s _ => n2 - (intOf s).toNat)
      case atStart => exact ⟨0, m, rfl, Nat.zero_le _, Nat.le_refl _, rfl, by simpa using unhide HRB, unhide HW⟩
      case round =>
        obtain ⟨i, q, rfl, hi1, hmi, hlen, hrow, hw⟩ := hrel
        have HR := hide hrow
        have HW := hide hw
        have HLN := hide hlen
        obtain ⟨ug, cg, rfl, _⟩ := own_form hrow
        clear hrow hw hlen
        by_cases h : i < n2
        · have i1 : (i : Int) < (n2 : Int) := by omega
          have i0 : (0 : Int) ≤ (i : Int) := Int.natCast_nonneg _
          have iz : decide ((i : Int) < (n2 : Int)) = true := decide_eq_true i1
          obtain ⟨x, hx⟩ := get_some (unhide HL2) h
          obtain ⟨F, hF⟩ := fl_ex x
          obtain ⟨rfl, hpw, hld⟩ := SlG.load hF ((unhide H2).bel (unhide HW)).at_ hx
          have LD := hide hld
          have HI := hide hF.info
          have HO := hide hF.one
          have HF := hide hF
          have hfold := fold_F hF
          have hsz := hF.size
          have hns := (unhide H2).size x (List.mem_of_getElem? hx)
          have HNS := hide hns
          have HTK := hide (filter_take (dnL f) hx)
          have HLF := hide (fun g W (h : ab W g 57 F) => hF.load0 h)
          have cF0 : F[0]'(by omega) = .string x.nm := by
            have c0 : F[0]? = some (.string x.nm) := by rw [← Array.getElem?_toList, hF.l]; rfl
            rw [Array.getElem?_eq_getElem (by omega)] at c0
            exact Option.some.inj c0
          have HN := hide (ab_new wr 57 F _ rfl)
          have HWN := hide (ba (unhide HW) (.cells F 57))
          have HMN := hide ((unhide HM).bel (unhide HWN))
          have HRN := hide (own_bel (unhide HR) (ba (Below.refl _ _) (.cells F 57)))
          have HLA := hide (fun W (h : Below w.heap.size w W) => lacks_any b nm f x.nm W ((unhide HM).bel h) (unhide HNS))
          clear hld hx hF hns
          go_wp2_with (first | refine wpl_loadAt rfl 57 (.tmp 44) rfl _ rfl _ (unhide LD) ?_ | refine wpl_putNew rfl 57 _ _ rfl wr _ F 57 rfl rfl (unhide HI) (by rw [hsz]; rfl) (unhide HO) ?_)
          refine (unhide HLA _ (unhide HWN)).mono ?_
          rintro e W1 ⟨rfl, hb1⟩
          have HN1 := hide ((unhide HN).bel hb1)
          have HW1 := hide (bc (unhide HWN) hb1)
          have HM1 := hide ((unhide HMN).bel hb1)
          have HR1 := hide (own_bel (unhide HRN) hb1)
          have hc1 : W1.cell? ⟨wr.heap.size, 0, none⟩ = some (.string x.nm) := (unhide HN1).cell (by rw [(unhide HF).l]; rfl)
          clear hb1 cF0
          have hdn : dnL f x = match f x.nm with | none => false | some p => fE p.1 ft0 := rfl
          have HLK := hide ((unhide HM1).get und61 x.nm (unhide HNS))
          cases hfx : f x.nm with
          | none =>
            rw [hfx] at hdn
            have HTK2 : Hid ((L.take (i + 1)).filter (dnL f) = (L.take i).filter (dnL f)) := hide (by rw [unhide HTK, hdn]; simp)
            clear hdn hfx
            go_wp2_with fail
            go_roundw
            case rel => exact ⟨i + 1, q, by simp, h, by omega, by rw [unhide HTK2, unhide HLN], by rw [unhide HTK2]; exact unhide HR1, unhide HW1⟩
            case measure => simp only [intOf]; omega
          | some p =>
            rw [hfx] at hdn
            rw [hfx] at HLK
            simp only [Option.getD_some] at HLK
            simp only at hdn
            obtain ⟨P, hP⟩ := bl_ex p
            have hlk := unhide HLK
            rw [hP.v] at hlk
            have HLO := hide (fun W => came_any p W)
            rw [hP.v] at HLO
            clear hfx hP HLK
            go_wp2_with fail
            refine (unhide HLO _).mono ?_
            rintro e W3 ⟨rfl, hb3⟩
            have HN3 := hide ((unhide HN1).bel hb3)
            have HW3 := hide (bc (unhide HW1) hb3)
            have HR3 := hide (own_bel (unhide HR1) hb3)
            clear hb3 hlk hc1
            cases hq : fE p.1 ft0
            · rw [hq] at hdn
              have HTK2 : Hid ((L.take (i + 1)).filter (dnL f) = (L.take i).filter (dnL f)) := hide (by rw [unhide HTK, hdn]; simp)
              clear hdn hq
              go_wp2_with fail
              go_roundw
              case rel => exact ⟨i + 1, q, by simp, h, by omega, by rw [unhide HTK2, unhide HLN], by rw [unhide HTK2]; exact unhide HR3, unhide HW3⟩
              case measure => simp only [intOf]; omega
            · rw [hq] at hdn
              have HTK2 : Hid ((L.take (i + 1)).filter (dnL f) = (L.take i).filter (dnL f) ++ [x]) := hide (by rw [unhide HTK, hdn]; simp)
              clear hdn hq
              go_wp2_with (first
                | refine wpl_loadAt rfl 57 (.tmp 12) rfl _ rfl _ (unhide HLF _ _ (unhide HN3)) ?_
                | (at_builtin; refine unhide ?_))
              refine hide ?_
              refine wpList_append_own _ rfl _ _ 27 rfl w.heap.size 57 iF _ 15 144 Try.underlying27 hi hx0 hx1 hx2 rfl (by decide) _ q _ rfl (own_bel (unhide HR3) (ba (Below.refl _ _) _)) _ 1 1 (ftc x) rfl rfl (news_F (unhide HF) _ rfl) (ftc_one x) (by unfold maxLen; omega) (by omega) (Nat.le_trans (unhide HW3).size (by simp)) ?_
              intro v' w1 hown' hgrow _
              have R := hide (own_ft (Below.alloc (Below.refl w.heap.size _) (unhide HW3).size _) (Nat.le_trans (unhide HW3).size (by simp)) (unhide HR3) hown' hgrow)
              clear hown' hgrow
              go_wp2_with fail
              go_roundw
              case rel => exact ⟨i + 1, q + 1, by simp, h, by omega, by rw [unhide HTK2, List.length_append, ← Nat.add_assoc, unhide HLN]; rfl, by rw [unhide HTK2, ← List.append_assoc]; exact (unhide R).1, (unhide HW3).trans (unhide R).2⟩
              case measure => simp only [intOf]; omega
        · have i1 : ¬ (i : Int) < (n2 : Int) := by omega
          have iz : decide ((i : Int) < (n2 : Int)) = false := decide_eq_false i1
          have HE : Hid ((L.take i).filter (dnL f) = L.filter (dnL f)) := hide (by rw [List.take_of_length_le (by rw [unhide HL2]; omega)])
          go_wp2_with fail
          go_ret
          refine ⟨_, rfl, ?_, unhide HW⟩
          have h1 := unhide HR
          have h2 := unhide HLN
          rw [unhide HE] at h1 h2
          unfold dTo
          rw [List.length_append, unhide HLB, h2]
          exact h1
end Go.Proofs.Ytkkmikgeppkhiaa

namespace Go.Proofs.Ytkkmikgeppkhiaa
open Go.ChangeShapes Go.WideShapes Go.ChangeAt Go.RowKit Go.Maps Go.WideMaps Go.ChangeMaps Go.MapKept
open Go.WideElems (Fit)
set_option linter.unusedVariables false
set_option linter.unusedSimpArgs false

/-- a name that lacks is among these -/
def lck (f : ByteArray → Option Two) (ns : List ByteArray) : Bool := ns.any fun s => !(f s).isSome
theorem lck_no {f : ByteArray → Option Two} {ns : List ByteArray} (h : ∀ (j : Nat) (s : ByteArray), ns[j]? = some s → (f s).isSome = true) : lck f ns = false := by
  unfold lck
  rw [List.any_eq_false]
  intro s hs
  obtain ⟨j, hj, rfl⟩ := List.getElem_of_mem hs
  rw [h j _ (List.getElem?_eq_getElem hj)]
  simp
theorem lck_yes {f : ByteArray → Option Two} {ns : List ByteArray} {i : Nat} {s : ByteArray} (h : ns[i]? = some s) (e : (f s).isSome = false) : lck f ns = true := by
  unfold lck
  rw [List.any_eq_true]
  exact ⟨s, List.mem_of_getElem? h, by rw [e]; rfl⟩
set_option maxRecDepth 100000 in
set_option maxHeartbeats 4000000 in
theorem ixL_any (b nm : Nat) (f : ByteArray → Option Two) (u : Option Addr) (n c : Nat) (ns : List ByteArray) (w : World) (hm : Mp w b nm f) (hl : ns.length = n) (hn : n ≤ 1048576) (hu : StAt w u ns) (hs : ∀ s ∈ ns, s.size ≤ maxLen) :
    Calls Try.prog 67 #[.slice u n c, .func (.func 48) #[.map (some b)] #[]] w fun e w' => (∃ r : Int, e = .returned (.int .i64 r) ∧ (lck f ns = decide (0 ≤ r))) ∧ Below w.heap.size w w' := by
  have HU := hide (fun W (hW : Below w.heap.size w W) => hu.bel hW)
  have HL := hide hl
  have HK := hide (fun s (hs' : s ∈ ns) W (hW : Below w.heap.size w W) => lacks_any b nm f s W (hm.bel hW) (hs s hs'))
  have n0 : (0 : Int) ≤ (n : Int) := Int.natCast_nonneg _
  clear hu hl hs hm
  go_enter Try.func67, Try.ntmps67
  go_wp2_with fail
  go_loopw [5, 8] (fun _ s W => ∃ i : Nat, s = .int .i64 (i : Int) ∧ i ≤ n ∧ (∀ (j : Nat) (s : ByteArray), j < i → ns[j]? = some s → (f s).isSome = true) ∧ Below w.heap.size w W) (fun _ s _ => n - (intOf s).toNat)
  case atStart => exact ⟨0, rfl, Nat.zero_le _, fun j s hj => by omega, Below.refl _ _⟩
  case round =>
    obtain ⟨i, rfl, hi, ha, hb⟩ := hrel
    have HA := hide ha
    have HB := hide hb
    clear ha
    by_cases h : i < n
    · have i1 : (i : Int) < (n : Int) := by omega
      have i0 : (0 : Int) ≤ (i : Int) := Int.natCast_nonneg _
      have iz : decide ((i : Int) < (n : Int)) = true := decide_eq_true i1
      obtain ⟨s, hx⟩ := get_some (unhide HL) h
      have hne : ns ≠ [] := by intro e; subst e; cases hx
      obtain ⟨g, o, rfl, hgl, hc⟩ := (unhide HU _ hb) hne
      have k0 := hc i s hx
      have HC := hide (unhide HK s (List.mem_of_getElem? hx) _ hb)
      have HX := hide hx
      clear hx hc hne hb
      cases hq : (f s).isSome
      · rw [hq] at HC
        have HQ := hide hq
        clear hq
        go_wp2_with fail
        refine (unhide HC).mono ?_
        rintro e W2 ⟨rfl, hb2⟩
        have HB2 := hide (bc (unhide HB) hb2)
        clear hb2
        go_wp2_with fail
        go_ret
        refine ⟨⟨_, rfl, ?_⟩, unhide HB2⟩
        rw [lck_yes (unhide HX) (unhide HQ)]
        simp
      · rw [hq] at HC
        have HQ := hide hq
        clear hq
        go_wp2_with fail
        refine (unhide HC).mono ?_
        rintro e W2 ⟨rfl, hb2⟩
        have HB2 := hide (bc (unhide HB) hb2)
        clear hb2
        go_wp2_with fail
        go_roundw
        case rel =>
          refine ⟨i + 1, by simp, h, ?_, unhide HB2⟩
          intro j t hj ht
          by_cases e : j = i
          · subst e
            rw [unhide HX] at ht
            cases ht
            exact unhide HQ
          · exact unhide HA j t (by omega) ht
        case measure => simp only [intOf]; omega
    · have i1 : ¬ (i : Int) < (n : Int) := by omega
      have iz : decide ((i : Int) < (n : Int)) = false := decide_eq_false i1
      clear hb
      go_wp2_with fail
      go_ret
      refine ⟨⟨_, rfl, ?_⟩, unhide HB⟩
      rw [lck_no fun j s hj => unhide HA j s (by have := (List.getElem?_eq_some_iff.1 hj).1; have := unhide HL; omega) hj]
      simp
theorem hasL_any (b nm : Nat) (f : ByteArray → Option Two) (u : Option Addr) (n c : Nat) (ns : List ByteArray) (w : World) (hm : Mp w b nm f) (hl : ns.length = n) (hn : n ≤ 1048576) (hu : StAt w u ns) (hs : ∀ s ∈ ns, s.size ≤ maxLen) :
    Calls Try.prog 47 #[.slice u n c, .func (.func 48) #[.map (some b)] #[]] w fun e w' => e = .returned (.bool (lck f ns)) ∧ Below w.heap.size w w' := by
  have HI := hide (ixL_any b nm f u n c ns w hm hl hn hu hs)
  clear hm hl hu hs
  go_enter Try.func47, Try.ntmps47
  go_wp2_with fail
  refine (unhide HI).mono ?_
  rintro e W1 ⟨⟨r, rfl, hr⟩, hb⟩
  have HR := hide hr
  have HB := hide hb
  clear hr hb
  go_wp2_with fail
  go_ret
  refine ⟨?_, unhide HB⟩
  rw [unhide HR]
  try rfl
theorem Mp.clr {w : World} {b n : Nat} {f : ByteArray → Option Two} (h : Mp w b n f) (ty : TypeId) : ∃ w', (Builtin.clear_ #[61] ty #[.map (some b)]).run Try.prog w = .ok (.tuple #[]) w' ∧ Mp w' b 0 (fun _ => none) ∧ w.mapTurned w' b := by
  obtain ⟨D, ⟨es, clock, hb, F, hs, hD⟩, hd⟩ := h
  refine ⟨setBlock w b (.map #[] clock), ?_, ⟨.map [], ⟨#[], clock, heap_setBlock_same hb _, ⟨by simp, stamped_empty clock, by simp⟩, Nat.le_refl _, rfl⟩, Dat.empty⟩, ⟨es, clock, #[], clock, hb, rfl⟩⟩
  have h1 : (setObj b (.map #[] clock)).run Try.prog w = .ok () (setBlock w b (.map #[] clock)) := run_setObj_map _ hb
  simp [Builtin.clear_, run_underlying und61, MapKept.run_getObj_map hb, h1, Result.andThen]
/-- another map's entries put in, but for those still to come -/
def cpy (f g : ByteArray → Option Two) (left : ByteArray → Bool) (s : ByteArray) : Option Two := if (g s).isSome && !left s then g s else f s
theorem cpy_start (f g : ByteArray → Option Two) (s : ByteArray) : f s = cpy f g (fun s => (g s).isSome) s := by unfold cpy; cases e : (g s).isSome <;> simp [e]
theorem cpy_step {f g : ByteArray → Option Two} {left : ByteArray → Bool} {s : ByteArray} (h : left s = true) {p : Two} (hg : g s = some p) (t : ByteArray) : up (cpy f g left) s p t = cpy f g (fun t => left t && !sEq s t) t := by
  unfold up cpy
  cases q : sEq s t with
  | true => rw [← sEq_iff.1 q]; simp [hg, sEq_refl]
  | false => simp [q]
theorem cpy_end {g : ByteArray → Option Two} {left : ByteArray → Bool} (h : ∀ s, left s = false) (s : ByteArray) : cpy (fun _ => none) g left s = g s := by
  unfold cpy
  cases e : g s <;> simp [h s, e]
/-- a range begun, with how many there are at most -/
theorem wpl_rangeN (w : World) {ops : Array Oper} {rest : List Oper} {o : Oper} {a : Act} {Q : Exit → Act → World → Prop} (hg : o.guard = none) (m : Operand) (t : TypeId) (hop : o.op = Op.range t m) (ht : Try.prog.underlying t = some (.map 9 68)) (b n : Nat) (f : ByteArray → Option Two)
    (hm : a.eval m = .map (some b)) (h : Mp w b n f)
    (hK : ∀ w' cnt, cnt ≤ n → Rg w' b w.heap.size n f (fun s => (f s).isSome) cnt → w.grownBy w' none → w'.heap.size = w.heap.size + 1 → wpList Try.prog ops Q rest (a.put o.dst (.pointer (some ⟨w.heap.size, 0, none⟩))) w') :
    wpList Try.prog ops Q (o :: rest) a w := by
  obtain ⟨D, h, hd⟩ := h
  refine wpList_range_own w hg m t hop 9 68 lawK ht Rb b n D hm h ?_
  intro w' h1 h2 h3
  exact hK w' _ h.size_le ⟨D, _, h1, hd, fun s => (hd s).1⟩ h2 h3
set_option maxRecDepth 100000 in
set_option maxHeartbeats 4000000 in
theorem copy_any (b1 b2 n1 n2 : Nat) (g : ByteArray → Option Two) (w : World) (h1 : Mp w b1 n1 (fun _ => none)) (h2 : Mp w b2 n2 g) (hne : b1 ≠ b2) (hn1 : n1 ≤ 10000) (hn2 : n2 ≤ 10000) :
    Calls Try.prog 68 #[.map (some b1), .map (some b2)] w fun e w' => e = .returned (.tuple #[]) ∧ Mp w' b1 (n1 + n2) g ∧ w.grownBy w' (some b1) := by
  have H1 := hide h1
  have H2 := hide h2
  have l1 := h1.lt
  clear h1 h2
  go_enter Try.func68, Try.ntmps68
  go_wp2_with (refine wpl_rangeN _ rfl _ 61 rfl und61 b2 n2 g rfl (unhide H2) ?_; intro w0 cnt0 hcn hrg0 hg0 hs0)
  have R0 := hide hrg0
  have M0 := hide (gb_mp (unhide H1) hg0 (by simp))
  have G0 := hide (hg0.but (some b1))
  clear hrg0 hg0
  go_frame
  go_loopw [4, 5] (fun _ _ W => ∃ left cnt, cnt ≤ cnt0 ∧ Rg W b2 w.heap.size n2 g left cnt ∧ Mp W b1 (n1 + (cnt0 - cnt)) (cpy (fun _ => none) g left) ∧ w.grownBy W (some b1)) (fun _ _ W => W.rangeLeft b2 w.heap.size)
  case atStart => exact ⟨_, cnt0, Nat.le_refl _, unhide R0, ((unhide M0).mono (by omega)).congr (cpy_start _ g), unhide G0⟩
  case round =>
    obtain ⟨left, cnt, hcc, hrg, hm, hg⟩ := hrel
    have HR := hide hrg
    have HM := hide hm
    have HG := hide hg
    clear hrg hm hg
    go_wp2_with (first
      | (at_next; refine wpl_nextB _ rfl _ rfl b2 w.heap.size n2 g left cnt rfl (unhide HR) ?_ ?_)
      | go_in)
    · intro hl0
      have HL0 := hide hl0
      clear hl0
      go_wp2_with fail
      go_end0
      exact ⟨rfl, ((unhide HM).mono (by omega)).congr (cpy_end (unhide HL0)), unhide HG⟩
    · intro s p1 p2 w1 cnt1 hs hls hf hrg1 hlt hg1 hs1 hen
      have HR1 := hide hrg1
      have HM1 := hide (gb_mp (unhide HM) hg1 (by simp; omega))
      have HG1 := hide (gb_trans (unhide HG) hg1 (fun j hj => by cases hj; exact Or.inl (Nat.le_refl _)))
      have HST := hide (fun t => cpy_step (f := fun _ => none) hls hf t)
      have HLT := hide hlt
      obtain ⟨A, hA⟩ := bl_ex (p1, p2)
      have HA := hide hA
      rw [hA.v] at hen
      have HI := hide hA.info
      have HO := hide hA.one
      have hsz := hA.size
      have HLA := hide (fun W (h : ab W w1.heap.size 68 A) => hA.load h)
      have HN := hide (ab_new w1 68 A _ rfl)
      have HR2 := hide ((unhide HR1).bel (ba (Below.refl _ _) (.cells A 68)))
      have HM2 := hide ((unhide HM1).bel (ba (Below.refl _ _) (.cells A 68)))
      have HG2 := hide (gb_trans (unhide HG1) (gb_alloc w1 (.cells A 68) none) (fun j hj => by cases hj))
      clear hrg1 hg1 hls hf hA hlt hs1
      go_wp2_with (first
        | refine wpl_putNew rfl 68 _ _ rfl w1 _ A 68 rfl rfl (unhide HI) (by rw [hsz]; rfl) (unhide HO) ?_
        | refine wpl_loadAt rfl 68 (.tmp 5) rfl _ rfl _ (unhide HLA _ (unhide HN)) ?_
        | (refine wpl_putA rfl (.tmp 13) (.tmp 14) (.tmp 15) 61 rfl und61 b1 _ _ rfl (unhide HM2) (by unfold maxLen; omega) s (p1, p2) A (unhide HA) rfl rfl hs ?_; intro w2 hm2 ht2; have HM3 := hide hm2; have HT2 := hide ht2.grown; clear hm2 ht2))
      have HR3 := hide (gb_rg (unhide HR2) (unhide HT2) (by simp; omega) (by simp; omega))
      have HG3 := hide (gb_trans (unhide HG2) (unhide HT2) (fun j hj => by cases hj; exact Or.inr rfl))
      try go_frame
      go_roundw
      case rel => exact ⟨_, cnt1, by have := unhide HLT; omega, unhide HR3, ((unhide HM3).mono (by have := unhide HLT; omega)).congr (unhide HST), unhide HG3⟩
      case measure => rw [(unhide HR3).left_eq, (unhide HR).left_eq]; exact unhide HLT
end Go.Proofs.Ytkkmikgeppkhiaa

namespace Go.Proofs.Ytkkmikgeppkhiaa
open Go.ChangeShapes Go.WideShapes Go.ChangeAt Go.RowKit Go.Maps Go.WideMaps
set_option linter.unusedVariables false
set_option linter.unusedSimpArgs false

def kp (f : ByteArray → Option Two) (ns : List ByteArray) (s : ByteArray) : Option Two := if hasT ns s = true then some ((f s).getD p0) else none
theorem kp_nil (f : ByteArray → Option Two) (s : ByteArray) : none = kp f [] s := by simp [kp, hasT]
theorem hasT_app (a : List ByteArray) (s t : ByteArray) : hasT (a ++ [s]) t = (hasT a t || sEq s t) := by simp [hasT]
theorem kp_step (f : ByteArray → Option Two) {ns : List ByteArray} {i : Nat} {s : ByteArray} (h : ns[i]? = some s) (t : ByteArray) : up (kp f (ns.take i)) s ((f s).getD p0) t = kp f (ns.take (i + 1)) t := by
  unfold up kp
  rw [List.take_add_one, h, Option.toList_some, hasT_app]
  cases q : sEq s t with
  | true => rw [sEq_iff.1 q]; simp
  | false => simp
/-- a map cleared -/
theorem wpl_clearB (w : World) {ops : Array Oper} {rest : List Oper} {o : Oper} {a : Act} {Q : Exit → Act → World → Prop} (hg : o.guard = none) (m : Operand) (hop : o.op = Op.call { callee := Callee.builtin Builtin.clear, args := #[m], argTypes := #[61] })
    (b n : Nat) (f : ByteArray → Option Two) (hm : a.eval m = .map (some b)) (h : Mp w b n f)
    (hK : ∀ w', Mp w' b 0 (fun _ => none) → w.mapTurned w' b → wpList Try.prog ops Q rest (a.put o.dst (.tuple #[])) w') :
    wpList Try.prog ops Q (o :: rest) a w := by
  refine wpList_plain hg fun K' hK' => ?_
  obtain ⟨w', hrun, r1, r2⟩ := h.clr o.type
  unfold Oper.wp
  simp [execOp, hop, resolve, invoke, builtin, hm, hrun, Result.andThen]
  exact hK' _ _ (hK w' r1 r2)
set_option maxRecDepth 100000 in
set_option maxHeartbeats 4000000 in
theorem keep_any (b nb : Nat) (f : ByteArray → Option Two) (u : Option Addr) (n c : Nat) (ns : List ByteArray) (w : World) (hm : Mp w b nb f) (hl : ns.length = n) (hn : n ≤ 4096) (hu : StAt w u ns) (hs : ∀ s ∈ ns, s.size ≤ maxLen) :
    Calls Try.prog 49 #[.map (some b), .slice u n c] w fun e w' => e = .returned (.tuple #[]) ∧ Mp w' b n (kp f ns) ∧ w.grownBy w' (some b) := by
  have HU := hide (fun W (hW : Below w.heap.size w W) => hu.bel hW)
  have HL := hide hl
  have HS := hide hs
  have HM := hide hm
  have hbl := hm.lt
  clear hu hl hs hm
  have hmm := @run_makeMap Try.prog
  go_enter Try.func49, Try.ntmps49
  go_wp2_with fail
  go_loopw [6, 10] (fun _ s W => ∃ i : Nat, s = .int .i64 (i : Int) ∧ i ≤ n ∧ Mp W w.heap.size i (kp f (ns.take i)) ∧ Below w.heap.size w W) (fun _ s _ => n - (intOf s).toNat)
  case atStart => exact ⟨0, rfl, Nat.zero_le _, (Mp.made w).congr (kp_nil f), ba (Below.refl _ _) _⟩
  case round =>
    obtain ⟨i, rfl, hi, hmi, hb⟩ := hrel
    have HMI := hide hmi
    have HB := hide hb
    have hml := hmi.lt
    clear hmi
    by_cases h : i < n
    · have i1 : (i : Int) < (n : Int) := by omega
      have i0 : (0 : Int) ≤ (i : Int) := Int.natCast_nonneg _
      have iz : decide ((i : Int) < (n : Int)) = true := decide_eq_true i1
      obtain ⟨s, hx⟩ := get_some (unhide HL) h
      have hne : ns ≠ [] := by intro e; subst e; cases hx
      obtain ⟨g, o, rfl, hgl, hc⟩ := (unhide HU _ hb) hne
      have k0 := hc i s hx
      have hss := unhide HS s (List.mem_of_getElem? hx)
      have HSS := hide hss
      have HST := hide (fun t => kp_step f hx t)
      obtain ⟨A, hA⟩ := bl_ex ((f s).getD p0)
      have HA := hide hA
      have hlk := ((unhide HM).bel hb).get und61 s hss
      rw [hA.v] at hlk
      clear hx hc hne hss hA hb
      go_wp2_with (first
        | (refine wpl_putA rfl (.tmp 14) (.tmp 15) (.tmp 18) 61 rfl und61 w.heap.size i _ rfl (unhide HMI) (by unfold maxLen; omega) s ((f s).getD p0) A (unhide HA) rfl rfl (unhide HSS) ?_; intro w2 hm2 ht2; have HM2 := hide hm2; have HT2 := hide ht2.grown; clear hm2 ht2))
      try go_frame
      go_roundw
      case rel => exact ⟨i + 1, by simp, h, (unhide HM2).congr (unhide HST), Below.grown (unhide HB) (unhide HT2) (unhide HB).size (fun j hj => by cases hj; exact Nat.le_refl _)⟩
      case measure => simp only [intOf]; omega
    · have i1 : ¬ (i : Int) < (n : Int) := by omega
      have iz : decide ((i : Int) < (n : Int)) = false := decide_eq_false i1
      have HE : Hid (ns.take i = ns) := hide (List.take_of_length_le (by rw [unhide HL]; omega))
      have HMB := hide ((unhide HM).bel hb)
      clear hb
      rw [unhide HE] at HMI
      go_wp2_with (refine wpl_clearB _ rfl _ rfl b nb f rfl (unhide HMB) ?_; intro w2 hm2 ht2)
      have HK2 := hide (gb_mp (unhide HMI) ht2.grown (by simp; omega))
      have HG2 := hide (gb_trans (gb_of (unhide HB) (some b)) ht2.grown (fun j hj => by cases hj; exact Or.inr rfl))
      have HCP := hide (copy_any b w.heap.size 0 i (kp f ns) w2 hm2 (unhide HK2) (by omega) (by omega) (by omega))
      clear hm2 ht2
      try go_frame
      go_wp2_with fail
      refine (unhide HCP).mono ?_
      rintro e W3 ⟨rfl, hm3, hg3⟩
      have HM3 := hide hm3
      have HG3 := hide (gb_trans (unhide HG2) hg3 (fun j hj => by cases hj; exact Or.inr rfl))
      clear hm3 hg3
      go_wp2_with fail
      go_end0
      exact ⟨rfl, (unhide HM3).mono (by omega), unhide HG3⟩
end Go.Proofs.Ytkkmikgeppkhiaa

namespace Go.Proofs.Ytkkmikgeppkhiaa
open Go.ChangeShapes Go.WideShapes Go.ChangeAt Go.RowKit
set_option linter.unusedVariables false
set_option linter.unusedSimpArgs false

theorem own_stAt {w : World} {B k : Nat} {g c : Nat} {l : List ByteArray} (h : w.ownsRow B 9 1 (.slice (some ⟨g, 0, none⟩) k c) k (strs l)) : StAt w (some ⟨g, 0, none⟩) l := by
  intro h0
  obtain ⟨g', c', e, hB, hlt, _⟩ := own_sm h (by simp)
  cases e
  exact ⟨g, 0, rfl, hlt, fun i s hi => by rw [Nat.zero_add]; exact own_cells h (strs_at hi)⟩
theorem foldl_ins_len (L : List ByteArray) : ∀ acc, (L.foldl ins acc).length ≤ acc.length + L.length := by
  induction L with
  | nil => intro acc; exact Nat.le_refl _
  | cons a L ih =>
    intro acc
    have h1 := ih (ins acc a)
    have h2 : (ins acc a).length ≤ acc.length + 1 := by
      unfold ins
      split
      · omega
      · simp; omega
    simp only [List.foldl_cons, List.length_cons]
    omega
theorem ins_yes {A : List ByteArray} {p : ByteArray} (h : hasT A p = true) : ins A p = A := by unfold ins; rw [if_pos h]
theorem ins_no {A : List ByteArray} {p : ByteArray} (h : hasT A p = false) : ins A p = A.take (psn A p) ++ p :: A.drop (psn A p) := by unfold ins; rw [if_neg (by rw [h]; simp)]
theorem tail_ad1 (q ck k : Nat) (L : List Value) (hk : k ≤ L.length) (hc : L.length ≤ ck) : ∃ ad : Addr, (if ck = k then .some (⟨q, 0, none⟩ : Addr) else .some ⟨q, k, none⟩) = (.some ad : Option Addr) ∧
    ∀ (W : World), (∀ j x, L[j]? = some x → W.cell? ⟨q, j, none⟩ = some x) → ∀ (j : Nat) (u : Value), (L.drop k)[j]? = .some u → W.cell? (ad.add j) = .some u := by
  by_cases h : ck = k
  · refine ⟨⟨q, 0, none⟩, if_pos h, fun W hW j u hj => ?_⟩
    rw [List.drop_eq_nil_of_le (by omega)] at hj
    cases hj
  · refine ⟨⟨q, k, none⟩, if_neg h, fun W hW j u hj => ?_⟩
    rw [List.getElem?_drop] at hj
    rw [add_none]
    exact hW _ _ hj
set_option maxHeartbeats 8000000 in
set_option maxRecDepth 100000 in
theorem sortM_any (u : Option Addr) (n cu : Nat) (L : List ByteArray) (w : World) (hl : L.length = n) (hn : n ≤ 1048576) (hu : StAt w u L) :
    Calls Try.prog 50 #[.slice u n cu] w fun e w' => ∃ v, e = .returned v ∧ SRow w' w.heap.size v (srt L) ∧ Below w.heap.size w w' := by
  obtain ⟨iT, ht, hx0, hx1, hx2⟩ := info_parts info9
  have HU := hide hu
  have HL := hide hl
  clear hu hl
  go_enter Try.func50, Try.ntmps50
  go_wp2_with fail
  go_loopw [3, 4] (fun v s W => ∃ (i g c m : Nat), s = .int .i64 (i : Int) ∧ i ≤ n ∧ v = .slice (some ⟨g, 0, none⟩) m c ∧ m ≤ i ∧ W.ownsRow w.heap.size 9 1 (.slice (some ⟨g, 0, none⟩) m c) m (strs ((L.take i).foldl ins [])) ∧ Below w.heap.size w W) (fun _ s _ => n - (intOf s).toNat)
  case atStart => exact ⟨0, _, _, 0, rfl, by omega, rfl, Nat.le_refl _, own_made _ 9 _ 1 (Nat.le_refl _) _ rfl, ba (Below.refl _ _) _⟩
  case round =>
    obtain ⟨i, g, c, m, rfl, hi, rfl, hle, hrow, hw⟩ := hrel
    have HRW := hide hrow
    have HW := hide hw
    have hszw := hw.size
    obtain ⟨_, _, hvg, hg1, hg2, hc1, hc2⟩ := own_sm hrow (by simp)
    cases hvg
    have hmA : ((L.take i).foldl ins []).length = m := by have := hrow.1; rw [strs_len] at this; omega
    have HMA := hide hmA
    have HST := hide (own_stAt hrow)
    clear hrow hw hmA
    by_cases h : i < n
    · have iz : decide ((i : Int) < (n : Int)) = true := decide_eq_true (by omega)
      have i1 : (i : Int) < (n : Int) := by omega
      have i0 : (0 : Int) ≤ (i : Int) := by omega
      obtain ⟨p, hp⟩ := get_some (unhide HL) h
      have hne : L ≠ [] := by intro e; subst e; cases hp
      obtain ⟨b, o, rfl, hbl, hc⟩ := ((unhide HU).bel (unhide HW)) hne
      have b0 := hc i p hp
      have HS : Hid ((L.take (i + 1)).foldl ins [] = ins ((L.take i).foldl ins []) p) := hide (by rw [List.take_add_one, hp, List.foldl_append]; rfl)
      have wi : IntKind.i64.wrap ((i : Int) + 1) = (i : Int) + 1 := wrap_i (by omega) (by omega)
      clear hp hc hne
      generalize (L.take i).foldl ins [] = A at *
      have HH := hide (has_any (some ⟨g, 0, none⟩) m c A p wr (unhide HMA) (by omega) (unhide HST))
      cases hq : hasT A p
      rotate_left
      · rw [hq] at HH
        have HIY := hide (ins_yes hq)
        clear hq
        go_wp2_with fail
        refine (unhide HH).mono ?_
        rintro e W4 ⟨rfl, rfl⟩
        go_wp2_with fail
        go_roundw
        case rel => exact ⟨i + 1, g, c, m, by simp, h, rfl, by omega, by rw [unhide HS, unhide HIY]; exact unhide HRW, unhide HW⟩
        case measure => simp only [intOf]; omega
      rw [hq] at HH
      have HIN := hide (ins_no hq)
      have HLS := hide (fun k (hk : k ≤ psn A p) => psn_step (p := p) hk)
      generalize hln : psn A p = ln at *
      have hlA : ln ≤ A.length := (unhide HLS 0 (Nat.zero_le _)).2.2
      rw [unhide HMA] at hlA
      clear hln hq
      go_wp2_with fail
      refine (unhide HH).mono ?_
      rintro e W4 ⟨rfl, rfl⟩
      go_wp2_with fail
      go_loopw [5] (fun s W => ∃ k : Nat, s = .int .i64 (k : Int) ∧ k ≤ ln ∧ Below W4.heap.size W4 W) (fun s _ => ln - (intOf s).toNat)
      case atStart => exact ⟨0, rfl, by omega, Below.refl _ _⟩
      case round =>
        obtain ⟨k, rfl, hk, hw2⟩ := hrel
        have HW2 := hide hw2
        have HWW : Hid (Below w.heap.size w wr) := hide (bc (unhide HW) hw2)
        have HR2 := hide (own_bel (unhide HRW) hw2)
        have hsz2 := hw2.size
        have c0 := keep1 hw2 b0
        have lb := cell_lt c0
        clear hw2
        obtain ⟨ls1, ls2, _⟩ := unhide HLS k hk
        have k0 : (0 : Int) ≤ (k : Int) := by omega
        have wk : IntKind.i64.wrap ((k : Int) + 1) = (k : Int) + 1 := wrap_i (by omega) (by omega)
        by_cases hkl : k < ln
        · obtain ⟨q, hq, hqp⟩ := ls1 hkl
          have hkA : k < m := by omega
          have qa := own_cells (unhide HR2) (strs_at hq)
          have d1 : decide ((k : Int) < (m : Int)) = true := decide_eq_true (by omega)
          have d2 : (k : Int) < (m : Int) := by omega
          have d3 : Op.bytesLess q.toList p.toList = true := hqp
          clear ls1 ls2 hq hqp
          go_wp2_with fail
          go_quiet (fail)
          go_wp2_with fail
          go_roundw
          case rel => exact ⟨k + 1, by simp, by omega, (unhide HW2).trans ⟨rfl, rfl, rfl, Nat.le_refl _, fun _ _ => rfl⟩⟩
          case measure => simp only [intOf]; omega
        · obtain ⟨hkn, hcase⟩ := ls2 hkl
          have HKN := hide hkn
          clear ls1 ls2 hkn
          rcases hcase with hkA | ⟨q, hq, hqp⟩
          · have hkm : k = m := by rw [hkA]; exact unhide HMA
            have HKM := hide hkm
            have d1 : decide ((k : Int) < (m : Int)) = false := decide_eq_false (by omega)
            have d3 : ¬ (k : Int) < (m : Int) := by omega
            have d4 : ¬ k < m := by omega
            clear hkA hkm
            go_wp2_with fail
            go_quiet (fail)
            have hkle : k ≤ m := by have := hlA; omega
            have HDN : Hid (Below wr.heap.size wr (wr.drewN nq)) := hide ⟨rfl, rfl, rfl, Nat.le_refl _, fun _ _ => rfl⟩
            have HRV : Hid ((wr.drewN nq).ownsRow w.heap.size 9 1 (.slice (some ⟨g, 0, none⟩) m c) m (strs A)) := hide (own_bel (unhide HR2) (unhide HDN))
            have HWV : Hid (Below w.heap.size w (wr.drewN nq)) := hide (bc (unhide HWW) (unhide HDN))
            have c1 : (wr.drewN nq).cell? ⟨b, o + i, none⟩ = some (.string p) := keep1 (unhide HDN) c0
            have hgV : g < (wr.drewN nq).heap.size := by show g < wr.heap.size; omega
            have hszV : w.heap.size ≤ (wr.drewN nq).heap.size := (unhide HWV).size
            have hnV : (wr.drewN nq).heap.size = wr.heap.size := rfl
            clear hnV
            generalize wr.drewN nq = V at *
            clear b0 lb c0
            try clear qa
            obtain ⟨ad, had, hsrc⟩ := tail_ad1 g c k (strs A) (by rw [strs_len, unhide HMA]; exact hkle) (by rw [strs_len, unhide HMA]; exact hc1)
            have HSRC := hide hsrc
            have kk2 : (k : Int) ≤ (m : Int) := by omega
            have kk3 : (k : Int) ≤ (c : Int) := by omega
            have kk4 : (m : Int) ≤ (c : Int) := by omega
            clear hsrc
            go_wp2_with (at_builtin; refine unhide ?_)
            refine hide ?_
            refine wpList_append_own _ rfl _ _ 34 rfl V.heap.size 9 iT _ 1 16 Try.underlying34 ht hx0 hx1 hx2 rfl (by decide) _ 0 [] rfl (own_made _ 9 _ 1 (Nat.le_refl _) _ rfl) ad (m - k) (c - k) ((strs A).drop k) rfl (by rw [List.length_drop, strs_len, unhide HMA]; omega) (unhide HSRC _ (fun j x hj => ka (own_cells (unhide HRV) hj))) (fun u hu => strs_one u (List.mem_of_mem_drop hu)) (by unfold maxLen; omega) (by omega) (by simp) ?_
            intro vr wz hown' hgrow hvn
            have R := own_firstV (wr := V) (news := (strs A).drop k) (ba (Below.refl _ _) _) (by simp) (Nat.le_refl _) hown' hgrow
            obtain ⟨gr, cr, rfl, hgr1, hgr2, hcr1, hcr2⟩ := own_sm R.1 (fun e => by have := (hvn.1 e).1; cases this)
            have HRR := hide R.1
            have HBz := hide R.2
            have HRz := hide (own_bel (unhide HRV) R.2)
            have z0 := keep1 R.2 c1
            have lz := cell_lt z0
            have hgz : g < wz.heap.size := Nat.lt_of_lt_of_le hgV R.2.size
            have hszz := R.2.size
            have hgrg : gr ≠ g := by omega
            have HPO : Hid (wz.ownsRow w.heap.size 9 1 (.slice (some ⟨g, 0, none⟩) k c) k ((strs A).take k)) := hide (by have := own_pop (unhide HRz) (m := k) hkle; rw [Nat.mul_one] at this; exact this)
            have HIR := hide (fun j x (h : ((strs A).drop k)[j]? = some x) => own_cells (unhide HRR) h)
            clear hown' hgrow hvn R c1
            go_wp2_with fail
            go_region_law
              (first
              | (refine step_own (by rfl) (.tmp 44) (.tmp 49) _ (by rfl) w.heap.size 9 iT _ 1 16 Try.underlying34 ht hx0 hx1 hx2 rfl (by omega) (.slice (some ⟨g, 0, none⟩) k c) k ((strs A).take k) (by rfl) (by first | exact (unhide HPO).alloc _ | exact ((unhide HPO).alloc _).drew | exact ((unhide HPO).drew.alloc _))
                  ⟨_, 0, none⟩ 1 1 (strs [p]) (by rfl) (by rfl) (by first | exact news_cells _ _ rfl | exact news_cells _ _ (by simp) | exact news_drew _ _ (by simp)) strs_one (by unfold maxLen; omega) (by omega) (by simp; omega) ?_; intro v1 w1 hown' hgrow hvn1; have R1 := hide (own_moreV (wr := wz) (news := strs [p]) (by repeat (first | exact Below.refl _ _ | refine Below.alloc ?_ (by first | omega | (simp; omega)) _ | refine Below.drew ?_)) (by simp; omega) (unhide HPO) hown' hgrow); have HIR1 : Hid (∀ j x, ((strs A).drop k)[j]? = some x → w1.cell? ⟨gr, j, none⟩ = some x) := hide (fun j x h => (World.cell?_of_block (a := ⟨gr, j, none⟩) ((hgrow.block gr (by simp; omega) (by simp [Value.ownBlock]; omega)).trans (by first | exact Below.heap_alloc _ _ _ (by simp; omega) | exact Below.heap_alloc _ _ _ (by omega)))).trans (unhide HIR j x h)); have hs1 := (unhide R1).2.size; have HN1 : Hid (v1 ≠ .slice none 0 0) := hide (fun e => by have := (hvn1.1 e).1; cases this); clear hown' hgrow hvn1)
              | (refine step_own (by rfl) (.tmp 50) (.tmp 51) _ (by rfl) w.heap.size 9 iT _ 1 16 Try.underlying34 ht hx0 hx1 hx2 rfl (by omega) v1 (k + 1) ((strs A).take k ++ strs [p]) (by rfl) (unhide R1).1
                  ⟨gr, 0, none⟩ (m - k) cr ((strs A).drop k) (by rfl) (by rw [List.length_drop, strs_len, unhide HMA]; omega) (fun j x h => by rw [add_none, Nat.zero_add]; exact unhide HIR1 j x h) (fun u hu => strs_one u (List.mem_of_mem_drop hu))
                  (by unfold maxLen; omega) (by omega) (by omega) ?_; intro v2 w2 hown' hgrow hvn2; have R2 := hide (own_moreV (wr := w1) (L := (strs A).take k ++ strs [p]) (news := (strs A).drop k) (Below.refl _ _) (by omega) (unhide R1).1 hown' hgrow); have HN2 : Hid (v2 ≠ .slice none 0 0) := hide (fun e => unhide HN1 (hvn2.1 e).1); clear hown' hgrow hvn2))
            all_goals
              obtain ⟨g2, c2, rfl, hg21, hg22, hc21, hc22⟩ := own_sm (unhide R2).1 (unhide HN2)
              go_wp2_with fail
              go_roundw
              case rel =>
                have H : ∃ (i' g' c' m' : Nat), Value.int .i64 ((i : Int) + 1) = .int .i64 (i' : Int) ∧ i' ≤ n ∧ Value.slice (some ⟨g2, 0, none⟩) (k + 1 + (m - k)) c2 = .slice (some ⟨g', 0, none⟩) m' c' ∧ m' ≤ i' ∧ w2.ownsRow w.heap.size 9 1 (.slice (some ⟨g', 0, none⟩) m' c') m' (strs ((L.take i').foldl ins [])) ∧ Below w.heap.size w w2 := by
                  refine ⟨i + 1, g2, c2, k + 1 + (m - k), by simp, by omega, rfl, by omega, ?_, ?_⟩
                  · have hR := (unhide R2).1
                    rw [unhide HS, unhide HIN, ← unhide HKN, strs_app]
                    have e1 : strs (A.take k) = (strs A).take k := by simp [strs, List.map_take]
                    have e2 : strs (p :: A.drop k) = strs [p] ++ (strs A).drop k := by simp [strs, List.map_drop]
                    rw [e1, e2, ← List.append_assoc]
                    exact hR
                  · exact ((bc (unhide HWV) (unhide HBz)).trans (unhide R1).2).trans (unhide R2).2
                first | exact H | ((repeat apply Exists.intro); refine ⟨?_, rfl⟩; exact H)
              case measure => simp only [intOf]; omega
          · have hkA : k < m := by have := (List.getElem?_eq_some_iff.1 hq).1; rw [unhide HMA] at this; exact this
            have qa := own_cells (unhide HR2) (strs_at hq)
            have d1 : decide ((k : Int) < (m : Int)) = true := decide_eq_true (by omega)
            have d2 : (k : Int) < (m : Int) := by omega
            have d3 : Op.bytesLess q.toList p.toList = false := hqp
            clear hq hqp
            go_wp2_with fail
            go_quiet (fail)
            have hkle : k ≤ m := by have := hlA; omega
            have HDN : Hid (Below wr.heap.size wr (wr.drewN nq)) := hide ⟨rfl, rfl, rfl, Nat.le_refl _, fun _ _ => rfl⟩
            have HRV : Hid ((wr.drewN nq).ownsRow w.heap.size 9 1 (.slice (some ⟨g, 0, none⟩) m c) m (strs A)) := hide (own_bel (unhide HR2) (unhide HDN))
            have HWV : Hid (Below w.heap.size w (wr.drewN nq)) := hide (bc (unhide HWW) (unhide HDN))
            have c1 : (wr.drewN nq).cell? ⟨b, o + i, none⟩ = some (.string p) := keep1 (unhide HDN) c0
            have hgV : g < (wr.drewN nq).heap.size := by show g < wr.heap.size; omega
            have hszV : w.heap.size ≤ (wr.drewN nq).heap.size := (unhide HWV).size
            have hnV : (wr.drewN nq).heap.size = wr.heap.size := rfl
            clear hnV
            generalize wr.drewN nq = V at *
            clear b0 lb c0
            try clear qa
            have hsrc : ∀ (W : World), (∀ j x, (strs A)[j]? = some x → W.cell? ⟨g, j, none⟩ = some x) → ∀ (j : Nat) (u : Value), ((strs A).drop k)[j]? = .some u → W.cell? ((⟨g, k, none⟩ : Addr).add j) = .some u := fun W hW j u hj => by
              rw [List.getElem?_drop] at hj
              rw [add_none]
              exact hW _ _ hj
            have HSRC := hide hsrc
            have kk2 : (k : Int) ≤ (m : Int) := by omega
            have kk3 : (k : Int) ≤ (c : Int) := by omega
            have kk4 : (m : Int) ≤ (c : Int) := by omega
            clear hsrc
            go_wp2_with (at_builtin; refine unhide ?_)
            refine hide ?_
            refine wpList_append_own _ rfl _ _ 34 rfl V.heap.size 9 iT _ 1 16 Try.underlying34 ht hx0 hx1 hx2 rfl (by decide) _ 0 [] rfl (own_made _ 9 _ 1 (Nat.le_refl _) _ rfl) ⟨g, k, none⟩ (m - k) (c - k) ((strs A).drop k) rfl (by rw [List.length_drop, strs_len, unhide HMA]; omega) (unhide HSRC _ (fun j x hj => ka (own_cells (unhide HRV) hj))) (fun u hu => strs_one u (List.mem_of_mem_drop hu)) (by unfold maxLen; omega) (by omega) (by simp) ?_
            intro vr wz hown' hgrow hvn
            have R := own_firstV (wr := V) (news := (strs A).drop k) (ba (Below.refl _ _) _) (by simp) (Nat.le_refl _) hown' hgrow
            obtain ⟨gr, cr, rfl, hgr1, hgr2, hcr1, hcr2⟩ := own_sm R.1 (fun e => by have := (hvn.1 e).1; cases this)
            have HRR := hide R.1
            have HBz := hide R.2
            have HRz := hide (own_bel (unhide HRV) R.2)
            have z0 := keep1 R.2 c1
            have lz := cell_lt z0
            have hgz : g < wz.heap.size := Nat.lt_of_lt_of_le hgV R.2.size
            have hszz := R.2.size
            have hgrg : gr ≠ g := by omega
            have HPO : Hid (wz.ownsRow w.heap.size 9 1 (.slice (some ⟨g, 0, none⟩) k c) k ((strs A).take k)) := hide (by have := own_pop (unhide HRz) (m := k) hkle; rw [Nat.mul_one] at this; exact this)
            have HIR := hide (fun j x (h : ((strs A).drop k)[j]? = some x) => own_cells (unhide HRR) h)
            clear hown' hgrow hvn R c1
            go_wp2_with fail
            go_region_law
              (first
              | (refine step_own (by rfl) (.tmp 44) (.tmp 49) _ (by rfl) w.heap.size 9 iT _ 1 16 Try.underlying34 ht hx0 hx1 hx2 rfl (by omega) (.slice (some ⟨g, 0, none⟩) k c) k ((strs A).take k) (by rfl) (by first | exact (unhide HPO).alloc _ | exact ((unhide HPO).alloc _).drew | exact ((unhide HPO).drew.alloc _))
                  ⟨_, 0, none⟩ 1 1 (strs [p]) (by rfl) (by rfl) (by first | exact news_cells _ _ rfl | exact news_cells _ _ (by simp) | exact news_drew _ _ (by simp)) strs_one (by unfold maxLen; omega) (by omega) (by simp; omega) ?_; intro v1 w1 hown' hgrow hvn1; have R1 := hide (own_moreV (wr := wz) (news := strs [p]) (by repeat (first | exact Below.refl _ _ | refine Below.alloc ?_ (by first | omega | (simp; omega)) _ | refine Below.drew ?_)) (by simp; omega) (unhide HPO) hown' hgrow); have HIR1 : Hid (∀ j x, ((strs A).drop k)[j]? = some x → w1.cell? ⟨gr, j, none⟩ = some x) := hide (fun j x h => (World.cell?_of_block (a := ⟨gr, j, none⟩) ((hgrow.block gr (by simp; omega) (by simp [Value.ownBlock]; omega)).trans (by first | exact Below.heap_alloc _ _ _ (by simp; omega) | exact Below.heap_alloc _ _ _ (by omega)))).trans (unhide HIR j x h)); have hs1 := (unhide R1).2.size; have HN1 : Hid (v1 ≠ .slice none 0 0) := hide (fun e => by have := (hvn1.1 e).1; cases this); clear hown' hgrow hvn1)
              | (refine step_own (by rfl) (.tmp 50) (.tmp 51) _ (by rfl) w.heap.size 9 iT _ 1 16 Try.underlying34 ht hx0 hx1 hx2 rfl (by omega) v1 (k + 1) ((strs A).take k ++ strs [p]) (by rfl) (unhide R1).1
                  ⟨gr, 0, none⟩ (m - k) cr ((strs A).drop k) (by rfl) (by rw [List.length_drop, strs_len, unhide HMA]; omega) (fun j x h => by rw [add_none, Nat.zero_add]; exact unhide HIR1 j x h) (fun u hu => strs_one u (List.mem_of_mem_drop hu))
                  (by unfold maxLen; omega) (by omega) (by omega) ?_; intro v2 w2 hown' hgrow hvn2; have R2 := hide (own_moreV (wr := w1) (L := (strs A).take k ++ strs [p]) (news := (strs A).drop k) (Below.refl _ _) (by omega) (unhide R1).1 hown' hgrow); have HN2 : Hid (v2 ≠ .slice none 0 0) := hide (fun e => unhide HN1 (hvn2.1 e).1); clear hown' hgrow hvn2))
            all_goals
              obtain ⟨g2, c2, rfl, hg21, hg22, hc21, hc22⟩ := own_sm (unhide R2).1 (unhide HN2)
              go_wp2_with fail
              go_roundw
              case rel =>
                have H : ∃ (i' g' c' m' : Nat), Value.int .i64 ((i : Int) + 1) = .int .i64 (i' : Int) ∧ i' ≤ n ∧ Value.slice (some ⟨g2, 0, none⟩) (k + 1 + (m - k)) c2 = .slice (some ⟨g', 0, none⟩) m' c' ∧ m' ≤ i' ∧ w2.ownsRow w.heap.size 9 1 (.slice (some ⟨g', 0, none⟩) m' c') m' (strs ((L.take i').foldl ins [])) ∧ Below w.heap.size w w2 := by
                  refine ⟨i + 1, g2, c2, k + 1 + (m - k), by simp, by omega, rfl, by omega, ?_, ?_⟩
                  · have hR := (unhide R2).1
                    rw [unhide HS, unhide HIN, ← unhide HKN, strs_app]
                    have e1 : strs (A.take k) = (strs A).take k := by simp [strs, List.map_take]
                    have e2 : strs (p :: A.drop k) = strs [p] ++ (strs A).drop k := by simp [strs, List.map_drop]
                    rw [e1, e2, ← List.append_assoc]
                    exact hR
                  · exact ((bc (unhide HWV) (unhide HBz)).trans (unhide R1).2).trans (unhide R2).2
                first | exact H | ((repeat apply Exists.intro); refine ⟨?_, rfl⟩; exact H)
              case measure => simp only [intOf]; omega
    · have iz : decide ((i : Int) < (n : Int)) = false := decide_eq_false (by omega)
      have en : n = i := by omega
      have HE : Hid (L.take i = L) := hide (List.take_of_length_le (by rw [unhide HL]; omega))
      go_wp2_with fail
      go_ret
      refine ⟨_, rfl, ?_, unhide HW⟩
      have hr := unhide HRW
      rw [unhide HE] at hr
      have hm2 := unhide HMA
      rw [unhide HE] at hm2
      unfold SRow srt
      rw [hm2]
      exact hr
end Go.Proofs.Ytkkmikgeppkhiaa

namespace Go.Proofs.Ytkkmikgeppkhiaa
open Go.ChangeShapes Go.WideShapes Go.ChangeAt Go.RowKit
set_option linter.unusedVariables false
set_option linter.unusedSimpArgs false

/-- a list of features in memory -/
structure Ls where
  u : Option Addr
  p : Nat
  po : Nat
  cu : Nat
  fs : List Ft
def Ls.v (l : Ls) : Value := .slice l.u l.fs.length l.cu
def Ls.ok (w : World) (l : Ls) : Prop := l.fs.length ≤ 1048576 ∧ SlG ftc 15 w l.u l.p l.po l.fs
theorem Ls.ok.bel {w W : World} {l : Ls} (h : l.ok w) (hb : Below w.heap.size w W) : l.ok W := ⟨h.1, h.2.bel hb⟩
def nmsOf (ls : List Ls) : List ByteArray := (ls.map fun l => l.fs.map Ft.nm).flatten
/-- a block holds these lists -/
def LsAt (w : World) (g o : Nat) (ls : List Ls) : Prop := g < w.heap.size ∧ ∀ (i : Nat) (l : Ls), ls[i]? = some l → w.cell? ⟨g, o + i, none⟩ = some l.v
theorem LsAt.bel {w W : World} {g o : Nat} {ls : List Ls} (h : LsAt w g o ls) (hb : Below w.heap.size w W) : LsAt W g o ls :=
  ⟨Nat.lt_of_lt_of_le h.1 hb.size, fun i l hi => (hb.cell (p := ⟨g, _, none⟩) h.1).trans (h.2 i l hi)⟩
theorem nmsOf_take {ls : List Ls} {i : Nat} {l : Ls} (h : ls[i]? = some l) : nmsOf (ls.take (i + 1)) = nmsOf (ls.take i) ++ l.fs.map Ft.nm := by
  unfold nmsOf
  rw [List.take_add_one, h, Option.toList_some, List.map_append, List.flatten_append]
  simp
theorem nm_take {fs : List Ft} {k : Nat} {f : Ft} (h : fs[k]? = some f) : (fs.take (k + 1)).map Ft.nm = (fs.take k).map Ft.nm ++ [f.nm] := by
  rw [List.take_add_one, h, Option.toList_some, List.map_append]
  rfl
theorem take_nm_len (fs : List Ft) (k : Nat) (h : k ≤ fs.length) : ((fs.take k).map Ft.nm).length = k := by simp; omega
set_option maxRecDepth 100000 in
set_option maxHeartbeats 4000000 in
theorem namesOfM_any (g o n cu : Nat) (ls : List Ls) (w : World) (hl : ls.length = n) (hn : n ≤ 3) (h30 : ∀ l ∈ ls, l.fs.length ≤ 30) (hok : ∀ l ∈ ls, l.ok w) (ha : LsAt w g o ls) :
    Calls Try.prog 27 #[.slice (some ⟨g, o, none⟩) n cu] w fun e w' => ∃ v, e = .returned v ∧ SRow w' w.heap.size v (srt (nmsOf ls)) ∧ Below w.heap.size w w' := by
  obtain ⟨iT, ht, hx0, hx1, hx2⟩ := info_parts info9
  have HA := hide ha
  have HL := hide hl
  have HOK := hide (fun i l (h : ls[i]? = some l) => (hok l (List.mem_of_getElem? h)))
  have H30 := hide (fun i l (h : ls[i]? = some l) => (h30 l (List.mem_of_getElem? h)))
  clear hl hok ha h30
  go_enter Try.func27, Try.ntmps27
  go_wp2_with fail
  go_loopw [3, 4] (fun v s W => ∃ (i m : Nat), s = .int .i64 (i : Int) ∧ i ≤ n ∧ m ≤ 30 * i ∧ (nmsOf (ls.take i)).length = m ∧ W.ownsRow w.heap.size 9 1 v m (strs (nmsOf (ls.take i))) ∧ Below w.heap.size w W) (fun _ s _ => n - (intOf s).toNat)
  case atStart => exact ⟨0, 0, rfl, by omega, by omega, rfl, own_made _ 9 _ 1 (Nat.le_refl _) _ rfl, ba (Below.refl _ _) _⟩
  case round =>
    obtain ⟨i, m, rfl, hi, hm, hlm, hrow, hw⟩ := hrel
    have HRW := hide hrow
    have HW := hide hw
    have HLM := hide hlm
    obtain ⟨ug, cg, rfl, _⟩ := own_form hrow
    clear hrow hw hlm
    by_cases h : i < n
    · have iz : decide ((i : Int) < (n : Int)) = true := decide_eq_true (by omega)
      have i1 : (i : Int) < (n : Int) := by omega
      have i0 : (0 : Int) ≤ (i : Int) := by omega
      obtain ⟨l, hx⟩ := get_some (unhide HL) h
      have HX := hide hx
      have k0 := ((unhide HA).bel (unhide HW)).2 i l hx
      have hl30 := unhide H30 i l hx
      have HSL := hide (unhide HOK i l hx).2
      have HT := hide (nmsOf_take hx)
      obtain ⟨u, p, po, lc, fs⟩ := l
      have hfl : ∃ q, fs.length = q := ⟨_, rfl⟩
      obtain ⟨q, hq⟩ := hfl
      have HQ := hide hq
      simp only [Ls.v] at k0 hl30 HSL HT
      rw [hq] at k0 hl30
      clear hx hq
      have hwi : wr.heap.size = wr.heap.size := rfl
      go_wp2_with fail
      go_loopw [3, 5] (fun v s W => ∃ (k r : Nat), s = .int .i64 (k : Int) ∧ k ≤ q ∧ r = m + k ∧ W.ownsRow w.heap.size 9 1 v r (strs (nmsOf (ls.take i) ++ (fs.take k).map Ft.nm)) ∧ Below w.heap.size w W) (fun _ s _ => q - (intOf s).toNat)
      case atStart => exact ⟨0, m, rfl, by omega, rfl, by simpa using unhide HRW, unhide HW⟩
      case round =>
        obtain ⟨k, r, rfl, hk, hr, hrow, hw⟩ := hrel
        have HRK := hide hrow
        have HWK := hide hw
        obtain ⟨uk, ck, rfl, _⟩ := own_form hrow
        have kk := ((unhide HA).bel hw).2 i _ (unhide HX)
        simp only [Ls.v] at kk
        rw [unhide HQ] at kk
        clear hrow hw
        by_cases hkq : k < q
        · have kz : decide ((k : Int) < (q : Int)) = true := decide_eq_true (by omega)
          have k1 : (k : Int) < (q : Int) := by omega
          have k2 : (0 : Int) ≤ (k : Int) := by omega
          obtain ⟨f, hf⟩ := get_some (unhide HQ) hkq
          obtain ⟨rfl, kf, _⟩ := ((unhide HSL).bel (unhide HWK)).at15 hf
          have HTK := hide (nm_take hf)
          clear hf
          go_wp2_with (at_builtin; refine unhide ?_)
          refine hide ?_
          refine wpList_append_own _ rfl _ _ 34 rfl w.heap.size 9 iT _ 1 16 Try.underlying34 ht hx0 hx1 hx2 rfl (by decide) _ r _ rfl ((unhide HRK).alloc _) _ 1 1 (strs [f.nm]) rfl rfl (by first | exact news_cells _ _ rfl | exact news_cells _ _ (by simp)) strs_one (by unfold maxLen; omega) (by omega) (by have := (unhide HWK).size; simp; omega) ?_
          intro v' w1 hown' hgrow _
          have R := hide (own_moreV (news := strs [f.nm]) (Below.alloc (Below.refl w.heap.size _) (unhide HWK).size _) (by have := (unhide HWK).size; simp; omega) (unhide HRK) hown' hgrow)
          clear hown' hgrow
          go_wp2_with fail
          go_roundw
          case rel =>
            refine ⟨k + 1, r + 1, by simp, by omega, by omega, ?_, ?_⟩
            · rw [unhide HTK, ← List.append_assoc, strs_app]
              exact (unhide R).1
            · exact (unhide HWK).trans (unhide R).2
          case measure => simp only [intOf]; omega
        · have kz : decide ((k : Int) < (q : Int)) = false := decide_eq_false (by omega)
          have k1 : ¬ (k : Int) < (q : Int) := by omega
          have hkq2 : k = q := by omega
          go_wp2_with fail
          go_roundw
          case rel =>
            refine ⟨i + 1, r, by simp, by omega, by omega, ?_, ?_, unhide HWK⟩
            · rw [unhide HT, List.length_append, unhide HLM, List.length_map, unhide HQ]; omega
            · rw [unhide HT]
              have h1 := unhide HRK
              rw [List.take_of_length_le (l := fs) (i := k) (by rw [unhide HQ]; omega)] at h1
              exact h1
          case measure => simp only [intOf]; omega
    · have iz : decide ((i : Int) < (n : Int)) = false := decide_eq_false (by omega)
      have i1 : ¬ (i : Int) < (n : Int) := by omega
      have HS : Hid (∀ W, Below w.heap.size w W → True) := fun _ _ => trivial
      have hsr := (SRow.stAt (w := wr) (B := w.heap.size) (n := m) (c := cg) (u := ug) (l := nmsOf (ls.take i)) (by unfold SRow; rw [unhide HLM]; exact unhide HRW))
      have HC := hide (sortM_any ug m cg (nmsOf (ls.take i)) wr (unhide HLM) (by omega) hsr.2)
      have HE : Hid (ls.take i = ls) := hide (List.take_of_length_le (by rw [unhide HL]; omega))
      rw [unhide HE] at HC
      clear hsr
      go_wp2_with fail
      refine (unhide HC).mono ?_
      rintro e W1 ⟨v, rfl, hs, hb⟩
      have HS2 := hide (SRow.mono hs (unhide HW).size)
      have HB2 := hide (bc (unhide HW) hb)
      clear hs hb
      go_wp2_with fail
      go_ret
      exact ⟨v, rfl, unhide HS2, unhide HB2⟩
end Go.Proofs.Ytkkmikgeppkhiaa

namespace Go.Proofs.Ytkkmikgeppkhiaa
open Go.ChangeShapes Go.WideShapes Go.ChangeAt Go.RowKit
set_option linter.unusedVariables false
set_option linter.unusedSimpArgs false

def edc (e : Int × ByteArray) : List Value := [.int .i64 e.1, .string e.2]
/-- a row of edits of one's own -/
def ERow (w : World) (B : Nat) (v : Value) (es : List (Int × ByteArray)) : Prop := w.ownsRow B 54 2 v es.length (flatG edc es)
def edF (B L : List Ft) (s : ByteArray) : Option (Int × ByteArray) := if knd B L s = 0 then none else some (knd B L s, s)
theorem edF_list (B L : List Ft) : ∀ ns : List ByteArray, ns.filterMap (edF B L) = (ns.filter fun s => decide (knd B L s ≠ 0)).map fun s => (knd B L s, s)
  | [] => rfl
  | a :: l => by
    rw [List.filterMap_cons, List.filter_cons]
    unfold edF
    by_cases h : knd B L a = 0
    · rw [if_pos h]
      simp only [h, ne_eq, not_true_eq_false, decide_false, Bool.false_eq_true, if_false]
      exact edF_list B L l
    · rw [if_neg h]
      simp only [ne_eq, h, not_false_eq_true, decide_true, if_true, List.map_cons]
      rw [← edF_list B L l]
      rfl
theorem knd_mem {B L : List Ft} {s : ByteArray} (h : knd B L s ≠ 0) : s ∈ B.map Ft.nm ++ L.map Ft.nm := by
  rw [List.mem_append]
  unfold knd at h
  cases e1 : gtF B s with
  | some f =>
    obtain ⟨h1, h2⟩ := gt_mem e1
    exact .inl (List.mem_map.2 ⟨f, h1, h2⟩)
  | none =>
    cases e2 : gtF L s with
    | some f =>
      obtain ⟨h1, h2⟩ := gt_mem e2
      exact .inr (List.mem_map.2 ⟨f, h1, h2⟩)
    | none => rw [e1, e2] at h; exact (h rfl).elim
theorem edl_of {B L : List Ft} {ns : List ByteArray} (h : Nms (fun s => s ∈ B.map Ft.nm ++ L.map Ft.nm) ns) : EdL B L (ns.filterMap (edF B L)) := by
  rw [edF_list]
  refine ⟨_, h.filter fun s => ?_, rfl⟩
  rw [decide_eq_true_eq]
  exact ⟨fun k => ⟨knd_mem k, k⟩, fun k => k.2⟩
theorem nms2 (a b : Ls) : nmsOf [a, b] = a.fs.map Ft.nm ++ b.fs.map Ft.nm := by simp [nmsOf]
theorem nms3 (a b c : Ls) : nmsOf [a, b, c] = a.fs.map Ft.nm ++ b.fs.map Ft.nm ++ c.fs.map Ft.nm := by simp [nmsOf]
theorem srt_nms (l : List ByteArray) : Nms (fun s => s ∈ l) (srt l) := ⟨srt_rise l, fun s => mem_srt⟩
/-- the program's changes tell what was done -/
theorem eds_knd {B L : List Ft} (hB : ∀ f ∈ B, f ≠ ft0) (hL : ∀ f ∈ L, f ≠ ft0) (s : ByteArray) : ((eds B L s).isSome = true ↔ knd B L s ≠ 0) ∧ ((eds B L s).isSome = true → ekd ((eds B L s).getD p0) = knd B L s) := by
  unfold eds pr two knd ekd
  cases e1 : gtF B s with
  | none =>
    cases e2 : gtF L s with
    | none => simp
    | some b =>
      have : b ≠ ft0 := hL b (gt_mem e2).1
      have h2 : fE ft0 b = false := fE_ne (fun h => this h.symm)
      simp [Option.filter, h2, fE_refl]
  | some a =>
    have ha : a ≠ ft0 := hB a (gt_mem e1).1
    have h1 : fE a ft0 = false := fE_ne ha
    cases e2 : gtF L s with
    | none => simp [Option.filter, h1, fE_refl]
    | some b =>
      have hb : b ≠ ft0 := hL b (gt_mem e2).1
      have h2 : fE b ft0 = false := fE_ne hb
      cases e3 : fE a b <;> simp [Option.filter, e3, h1, h2]
theorem edl_p {B L : List Ft} (hB : ∀ f ∈ B, f ≠ ft0) (hL : ∀ f ∈ L, f ≠ ft0) {ns : List ByteArray} (h : Nms (fun s => (eds B L s).isSome = true) ns) : EdL B L (ns.map fun s => (ekd ((eds B L s).getD p0), s)) := by
  refine ⟨ns, ⟨h.1, fun s => (h.2 s).trans (eds_knd hB hL s).1⟩, ?_⟩
  refine List.map_congr_left fun s hs => ?_
  rw [(eds_knd hB hL s).2 ((h.2 s).1 hs)]
end Go.Proofs.Ytkkmikgeppkhiaa

namespace Go.Proofs.Ytkkmikgeppkhiaa
open Go.ChangeShapes Go.WideShapes Go.ChangeAt Go.RowKit
set_option linter.unusedVariables false
set_option linter.unusedSimpArgs false

theorem gtF_some {fs : List Ft} {s : ByteArray} {k : Nat} {f : Ft} (h : findN fs s = some k) (hf : fs[k]? = some f) : gtF fs s = some f := by
  unfold gtF
  rw [h, Option.map_some, getD_at hf]
theorem gtF_none {fs : List Ft} {s : ByteArray} (h : findN fs s = none) : gtF fs s = none := by
  unfold gtF
  rw [h]; rfl
set_option maxRecDepth 100000 in
set_option maxHeartbeats 4000000 in
theorem getM_any (u : Option Addr) (p po n cu : Nat) (fs : List Ft) (s : ByteArray) (w : World) (hl : fs.length = n) (hn : n ≤ 1048576) (hu : SlG ftc 15 w u p po fs) :
    Calls Try.prog 38 #[.slice u n cu, .string s] w fun e w' => e = .returned (.tuple #[ftv ((gtF fs s).getD ft0), .bool (gtF fs s).isSome]) ∧ Below w.heap.size w w' := by
  have HU := hide hu
  have HL := hide hl
  clear hu hl
  cases hf : findN fs s with
  | none =>
    have HF := hide (fun W (hw : Below w.heap.size w W) => find_any u p po n cu fs s W (unhide HL) hn ((unhide HU).bel hw))
    rw [findI_none hf] at HF
    rw [gtF_none hf]
    have HBX := hide (ba (Below.refl w.heap.size w) (.cells #[.string ⟨#[]⟩, .string ⟨#[]⟩, .string ⟨#[]⟩, .int .i64 0, .int .i64 0, .int .i64 0, .int .i64 0, .int .i64 0, .int .i64 0, .int .i64 0, .int .i64 0, .int .i64 0, .int .i64 0, .int .i64 0, .int .i64 0] 57))
    have HVX := hide (vb_new w 57 [.string ⟨#[]⟩, .string ⟨#[]⟩, .string ⟨#[]⟩, .int .i64 0, .int .i64 0, .int .i64 0, .int .i64 0, .int .i64 0, .int .i64 0, .int .i64 0, .int .i64 0, .int .i64 0, .int .i64 0, .int .i64 0, .int .i64 0] _ rfl)
    clear hf
    go_enter Try.func38, Try.ntmps38
    go_wp2_with fail
    refine (unhide HF _ (unhide HBX)).mono ?_
    rintro e W1 ⟨rfl, rfl⟩
    go_wp2_with (refine wpl_storeRowA rfl 57 _ _ rfl w.heap.size #[.string ⟨#[]⟩, .string ⟨#[]⟩, .string ⟨#[]⟩, .int .i64 0, .int .i64 0, .int .i64 0, .int .i64 0, .int .i64 0, .int .i64 0, .int .i64 0, .int .i64 0, .int .i64 0, .int .i64 0, .int .i64 0, .int .i64 0] (by kernel_rfl) (by kernel_rfl) 57 #[.string ⟨#[]⟩, .string ⟨#[]⟩, .string ⟨#[]⟩, .int .i64 0, .int .i64 0, .int .i64 0, .int .i64 0, .int .i64 0, .int .i64 0, .int .i64 0, .int .i64 0, .int .i64 0, .int .i64 0, .int .i64 0, .int .i64 0] (unhide HVX) (by kernel_rfl) rfl (by kernel_rfl) ?_)
    have hx := vb_row (unhide HVX) [.string ⟨#[]⟩, .string ⟨#[]⟩, .string ⟨#[]⟩, .int .i64 0, .int .i64 0, .int .i64 0, .int .i64 0, .int .i64 0, .int .i64 0, .int .i64 0, .int .i64 0, .int .i64 0, .int .i64 0, .int .i64 0, .int .i64 0]
    have HBR := hide (bel_row (unhide HBX) (Nat.le_refl w.heap.size) #[.string ⟨#[]⟩, .string ⟨#[]⟩, .string ⟨#[]⟩, .int .i64 0, .int .i64 0, .int .i64 0, .int .i64 0, .int .i64 0, .int .i64 0, .int .i64 0, .int .i64 0, .int .i64 0, .int .i64 0, .int .i64 0, .int .i64 0])
    have hrs := run_loadVar_row (P := Try.prog) _ w.heap.size 57 57 _ (0, 0) _ hx Try.underlying57 rfl (by kernel_rfl)
    refine bodyPost_ret (v := .tuple #[ftv ft0, .bool false]) ?_ rfl ⟨rfl, unhide HBR⟩
    simp [results, Try.results38, asAddr, hrs, ftv, ft0]
    rfl
  | some q =>
    have HF := hide (fun W (hw : Below w.heap.size w W) => find_any u p po n cu fs s W (unhide HL) hn ((unhide HU).bel hw))
    rw [findI_some hf] at HF
    obtain ⟨f, hx, hnm⟩ := findN_at hf
    clear hnm
    rw [gtF_some hf hx]
    have q1 : (q : Int) < (n : Int) := by have := findN_lt hf; have := unhide HL; omega
    have q0 : (0 : Int) ≤ (q : Int) := Int.natCast_nonneg _
    have qg : decide ((q : Int) ≥ 0) = true := decide_eq_true (by omega)
    have HBX := hide (ba (Below.refl w.heap.size w) (.cells #[.string ⟨#[]⟩, .string ⟨#[]⟩, .string ⟨#[]⟩, .int .i64 0, .int .i64 0, .int .i64 0, .int .i64 0, .int .i64 0, .int .i64 0, .int .i64 0, .int .i64 0, .int .i64 0, .int .i64 0, .int .i64 0, .int .i64 0] 57))
    have HVX := hide (vb_new w 57 [.string ⟨#[]⟩, .string ⟨#[]⟩, .string ⟨#[]⟩, .int .i64 0, .int .i64 0, .int .i64 0, .int .i64 0, .int .i64 0, .int .i64 0, .int .i64 0, .int .i64 0, .int .i64 0, .int .i64 0, .int .i64 0, .int .i64 0] _ rfl)
    obtain ⟨rfl, k0, k1, k2, k3, k4, k5, k6, k7, k8, k9, k10, k11, k12, k13, k14⟩ := ((unhide HU).bel (unhide HBX)).at15 hx
    clear hf hx
    obtain ⟨f0, f1, f2, f3, f4, f5, f6, f7, f8, f9, f10, f11, f12, f13, f14⟩ := f
    go_enter Try.func38, Try.ntmps38
    go_wp2_with fail
    refine (unhide HF _ (unhide HBX)).mono ?_
    rintro e W1 ⟨rfl, rfl⟩
    go_wp2_with (refine wpl_storeRowA rfl 57 _ _ rfl w.heap.size #[.string f0, .string f1, .string f2, .int .i64 f3, .int .i64 f4, .int .i64 f5, .int .i64 f6, .int .i64 f7, .int .i64 f8, .int .i64 f9, .int .i64 f10, .int .i64 f11, .int .i64 f12, .int .i64 f13, .int .i64 f14] (by kernel_rfl) (by kernel_rfl) 57 #[.string ⟨#[]⟩, .string ⟨#[]⟩, .string ⟨#[]⟩, .int .i64 0, .int .i64 0, .int .i64 0, .int .i64 0, .int .i64 0, .int .i64 0, .int .i64 0, .int .i64 0, .int .i64 0, .int .i64 0, .int .i64 0, .int .i64 0] (unhide HVX) (by kernel_rfl) rfl (by kernel_rfl) ?_)
    have hx := vb_row (unhide HVX) [.string f0, .string f1, .string f2, .int .i64 f3, .int .i64 f4, .int .i64 f5, .int .i64 f6, .int .i64 f7, .int .i64 f8, .int .i64 f9, .int .i64 f10, .int .i64 f11, .int .i64 f12, .int .i64 f13, .int .i64 f14]
    have HBR := hide (bel_row (unhide HBX) (Nat.le_refl w.heap.size) #[.string f0, .string f1, .string f2, .int .i64 f3, .int .i64 f4, .int .i64 f5, .int .i64 f6, .int .i64 f7, .int .i64 f8, .int .i64 f9, .int .i64 f10, .int .i64 f11, .int .i64 f12, .int .i64 f13, .int .i64 f14])
    have hrs := run_loadVar_row (P := Try.prog) _ w.heap.size 57 57 _ (0, 0) _ hx Try.underlying57 rfl (by kernel_rfl)
    refine bodyPost_ret (v := .tuple #[ftv ⟨f0, f1, f2, f3, f4, f5, f6, f7, f8, f9, f10, f11, f12, f13, f14⟩, .bool true]) ?_ rfl ⟨rfl, unhide HBR⟩
    simp [results, Try.results38, asAddr, hrs, ftv]
end Go.Proofs.Ytkkmikgeppkhiaa

namespace Go.Proofs.Ytkkmikgeppkhiaa
open Go.ChangeShapes Go.WideShapes Go.ChangeAt Go.RowKit
set_option linter.unusedVariables false
set_option linter.unusedSimpArgs false

def kB (x y e : Bool) : Int := if x then (if y then (if e then 0 else 3) else 2) else (if y then 1 else (if e then 0 else 3))
set_option maxRecDepth 100000 in
set_option maxHeartbeats 8000000 in
theorem editM_fff (a b : Ft) (hE : fE a b = false) (v1 v2 : Value) (s : ByteArray) (w : World) (ha : Calls Try.prog 38 #[v1, .string s] w fun e w' => e = .returned (.tuple #[ftv a, .bool false]) ∧ Below w.heap.size w w')
    (hb : ∀ W, Below w.heap.size w W → Calls Try.prog 38 #[v2, .string s] W fun e w' => e = .returned (.tuple #[ftv b, .bool false]) ∧ Below W.heap.size W w') :
    Calls Try.prog 28 #[v1, v2, .string s] w fun e w' => e = .returned (.int .i64 3) ∧ Below w.heap.size w w' := by
  have HA := hide ha
  have HB := hide hb
  clear ha hb
  obtain ⟨F, hF⟩ := fl_ex a
  obtain ⟨G, hG⟩ := fl_ex b
  have hne := hF.ne hG
  rw [hE] at hne
  clear hE
  rw [hF.v] at HA
  rw [hG.v] at HB
  have HIF := hide hF.info
  have HOF := hide hF.one
  have hsF := hF.size
  have HIG := hide hG.info
  have HOG := hide hG.one
  have hsG := hG.size
  have HLF := hide (fun g W (h : ab W g 57 F) => hF.load0 h)
  have HLG := hide (fun g W (h : ab W g 57 G) => hG.load0 h)
  clear hF hG
  go_enter Try.func28, Try.ntmps28
  go_wp2_with fail
  refine (unhide HA).mono ?_
  rintro e W1 ⟨rfl, hb1⟩
  have HB1 := hide hb1
  clear hb1
  go_wp2_with (refine wpl_putNew rfl 57 _ _ rfl W1 _ F 57 rfl rfl (unhide HIF) (by rw [hsF]; rfl) (unhide HOF) ?_)
  refine (unhide HB _ (ba (unhide HB1) _)).mono ?_
  rintro e W2 ⟨rfl, hb2⟩
  have HB2 := hide (ba (bc (ba (unhide HB1) _) hb2) (.cells G 57))
  have HN1 := hide (((ab_new W1 57 F _ rfl).bel hb2).bel (ba (Below.refl _ _) (.cells G 57)))
  have HN2 := hide (ab_new W2 57 G _ rfl)
  clear hb2
  go_wp2_with (first | refine wpl_putNew rfl 57 _ _ rfl W2 _ G 57 rfl rfl (unhide HIG) (by rw [hsG]; rfl) (unhide HOG) ?_ | refine wpl_loadAt rfl 57 (.tmp 7) rfl _ rfl _ (unhide HLF _ _ (unhide HN1)) ?_ | refine wpl_loadAt rfl 57 (.tmp 9) rfl _ rfl _ (unhide HLG _ _ (unhide HN2)) ?_)
  go_ret
  exact ⟨rfl, unhide HB2⟩
set_option maxRecDepth 100000 in
set_option maxHeartbeats 8000000 in
theorem editM_fft (a b : Ft) (hE : fE a b = true) (v1 v2 : Value) (s : ByteArray) (w : World) (ha : Calls Try.prog 38 #[v1, .string s] w fun e w' => e = .returned (.tuple #[ftv a, .bool false]) ∧ Below w.heap.size w w')
    (hb : ∀ W, Below w.heap.size w W → Calls Try.prog 38 #[v2, .string s] W fun e w' => e = .returned (.tuple #[ftv b, .bool false]) ∧ Below W.heap.size W w') :
    Calls Try.prog 28 #[v1, v2, .string s] w fun e w' => e = .returned (.int .i64 0) ∧ Below w.heap.size w w' := by
  have HA := hide ha
  have HB := hide hb
  clear ha hb
  obtain ⟨F, hF⟩ := fl_ex a
  obtain ⟨G, hG⟩ := fl_ex b
  have hne := hF.ne hG
  rw [hE] at hne
  clear hE
  rw [hF.v] at HA
  rw [hG.v] at HB
  have HIF := hide hF.info
  have HOF := hide hF.one
  have hsF := hF.size
  have HIG := hide hG.info
  have HOG := hide hG.one
  have hsG := hG.size
  have HLF := hide (fun g W (h : ab W g 57 F) => hF.load0 h)
  have HLG := hide (fun g W (h : ab W g 57 G) => hG.load0 h)
  clear hF hG
  go_enter Try.func28, Try.ntmps28
  go_wp2_with fail
  refine (unhide HA).mono ?_
  rintro e W1 ⟨rfl, hb1⟩
  have HB1 := hide hb1
  clear hb1
  go_wp2_with (refine wpl_putNew rfl 57 _ _ rfl W1 _ F 57 rfl rfl (unhide HIF) (by rw [hsF]; rfl) (unhide HOF) ?_)
  refine (unhide HB _ (ba (unhide HB1) _)).mono ?_
  rintro e W2 ⟨rfl, hb2⟩
  have HB2 := hide (ba (bc (ba (unhide HB1) _) hb2) (.cells G 57))
  have HN1 := hide (((ab_new W1 57 F _ rfl).bel hb2).bel (ba (Below.refl _ _) (.cells G 57)))
  have HN2 := hide (ab_new W2 57 G _ rfl)
  clear hb2
  go_wp2_with (first | refine wpl_putNew rfl 57 _ _ rfl W2 _ G 57 rfl rfl (unhide HIG) (by rw [hsG]; rfl) (unhide HOG) ?_ | refine wpl_loadAt rfl 57 (.tmp 7) rfl _ rfl _ (unhide HLF _ _ (unhide HN1)) ?_ | refine wpl_loadAt rfl 57 (.tmp 9) rfl _ rfl _ (unhide HLG _ _ (unhide HN2)) ?_)
  go_ret
  exact ⟨rfl, unhide HB2⟩
set_option maxRecDepth 100000 in
set_option maxHeartbeats 8000000 in
theorem editM_ft (a b : Ft)  (v1 v2 : Value) (s : ByteArray) (w : World) (ha : Calls Try.prog 38 #[v1, .string s] w fun e w' => e = .returned (.tuple #[ftv a, .bool false]) ∧ Below w.heap.size w w')
    (hb : ∀ W, Below w.heap.size w W → Calls Try.prog 38 #[v2, .string s] W fun e w' => e = .returned (.tuple #[ftv b, .bool true]) ∧ Below W.heap.size W w') :
    Calls Try.prog 28 #[v1, v2, .string s] w fun e w' => e = .returned (.int .i64 1) ∧ Below w.heap.size w w' := by
  have HA := hide ha
  have HB := hide hb
  clear ha hb
  obtain ⟨F, hF⟩ := fl_ex a
  obtain ⟨G, hG⟩ := fl_ex b
  have hne := hF.ne hG
  clear hne

  rw [hF.v] at HA
  rw [hG.v] at HB
  have HIF := hide hF.info
  have HOF := hide hF.one
  have hsF := hF.size
  have HIG := hide hG.info
  have HOG := hide hG.one
  have hsG := hG.size
  have HLF := hide (fun g W (h : ab W g 57 F) => hF.load0 h)
  have HLG := hide (fun g W (h : ab W g 57 G) => hG.load0 h)
  clear hF hG
  go_enter Try.func28, Try.ntmps28
  go_wp2_with fail
  refine (unhide HA).mono ?_
  rintro e W1 ⟨rfl, hb1⟩
  have HB1 := hide hb1
  clear hb1
  go_wp2_with (refine wpl_putNew rfl 57 _ _ rfl W1 _ F 57 rfl rfl (unhide HIF) (by rw [hsF]; rfl) (unhide HOF) ?_)
  refine (unhide HB _ (ba (unhide HB1) _)).mono ?_
  rintro e W2 ⟨rfl, hb2⟩
  have HB2 := hide (ba (bc (ba (unhide HB1) _) hb2) (.cells G 57))
  have HN1 := hide (((ab_new W1 57 F _ rfl).bel hb2).bel (ba (Below.refl _ _) (.cells G 57)))
  have HN2 := hide (ab_new W2 57 G _ rfl)
  clear hb2
  go_wp2_with (first | refine wpl_putNew rfl 57 _ _ rfl W2 _ G 57 rfl rfl (unhide HIG) (by rw [hsG]; rfl) (unhide HOG) ?_ | refine wpl_loadAt rfl 57 (.tmp 7) rfl _ rfl _ (unhide HLF _ _ (unhide HN1)) ?_ | refine wpl_loadAt rfl 57 (.tmp 9) rfl _ rfl _ (unhide HLG _ _ (unhide HN2)) ?_)
  go_ret
  exact ⟨rfl, unhide HB2⟩
set_option maxRecDepth 100000 in
set_option maxHeartbeats 8000000 in
theorem editM_tf (a b : Ft)  (v1 v2 : Value) (s : ByteArray) (w : World) (ha : Calls Try.prog 38 #[v1, .string s] w fun e w' => e = .returned (.tuple #[ftv a, .bool true]) ∧ Below w.heap.size w w')
    (hb : ∀ W, Below w.heap.size w W → Calls Try.prog 38 #[v2, .string s] W fun e w' => e = .returned (.tuple #[ftv b, .bool false]) ∧ Below W.heap.size W w') :
    Calls Try.prog 28 #[v1, v2, .string s] w fun e w' => e = .returned (.int .i64 2) ∧ Below w.heap.size w w' := by
  have HA := hide ha
  have HB := hide hb
  clear ha hb
  obtain ⟨F, hF⟩ := fl_ex a
  obtain ⟨G, hG⟩ := fl_ex b
  have hne := hF.ne hG
  clear hne

  rw [hF.v] at HA
  rw [hG.v] at HB
  have HIF := hide hF.info
  have HOF := hide hF.one
  have hsF := hF.size
  have HIG := hide hG.info
  have HOG := hide hG.one
  have hsG := hG.size
  have HLF := hide (fun g W (h : ab W g 57 F) => hF.load0 h)
  have HLG := hide (fun g W (h : ab W g 57 G) => hG.load0 h)
  clear hF hG
  go_enter Try.func28, Try.ntmps28
  go_wp2_with fail
  refine (unhide HA).mono ?_
  rintro e W1 ⟨rfl, hb1⟩
  have HB1 := hide hb1
  clear hb1
  go_wp2_with (refine wpl_putNew rfl 57 _ _ rfl W1 _ F 57 rfl rfl (unhide HIF) (by rw [hsF]; rfl) (unhide HOF) ?_)
  refine (unhide HB _ (ba (unhide HB1) _)).mono ?_
  rintro e W2 ⟨rfl, hb2⟩
  have HB2 := hide (ba (bc (ba (unhide HB1) _) hb2) (.cells G 57))
  have HN1 := hide (((ab_new W1 57 F _ rfl).bel hb2).bel (ba (Below.refl _ _) (.cells G 57)))
  have HN2 := hide (ab_new W2 57 G _ rfl)
  clear hb2
  go_wp2_with (first | refine wpl_putNew rfl 57 _ _ rfl W2 _ G 57 rfl rfl (unhide HIG) (by rw [hsG]; rfl) (unhide HOG) ?_ | refine wpl_loadAt rfl 57 (.tmp 7) rfl _ rfl _ (unhide HLF _ _ (unhide HN1)) ?_ | refine wpl_loadAt rfl 57 (.tmp 9) rfl _ rfl _ (unhide HLG _ _ (unhide HN2)) ?_)
  go_ret
  exact ⟨rfl, unhide HB2⟩
set_option maxRecDepth 100000 in
set_option maxHeartbeats 8000000 in
theorem editM_ttf (a b : Ft) (hE : fE a b = false) (v1 v2 : Value) (s : ByteArray) (w : World) (ha : Calls Try.prog 38 #[v1, .string s] w fun e w' => e = .returned (.tuple #[ftv a, .bool true]) ∧ Below w.heap.size w w')
    (hb : ∀ W, Below w.heap.size w W → Calls Try.prog 38 #[v2, .string s] W fun e w' => e = .returned (.tuple #[ftv b, .bool true]) ∧ Below W.heap.size W w') :
    Calls Try.prog 28 #[v1, v2, .string s] w fun e w' => e = .returned (.int .i64 3) ∧ Below w.heap.size w w' := by
  have HA := hide ha
  have HB := hide hb
  clear ha hb
  obtain ⟨F, hF⟩ := fl_ex a
  obtain ⟨G, hG⟩ := fl_ex b
  have hne := hF.ne hG
  rw [hE] at hne
  clear hE
  rw [hF.v] at HA
  rw [hG.v] at HB
  have HIF := hide hF.info
  have HOF := hide hF.one
  have hsF := hF.size
  have HIG := hide hG.info
  have HOG := hide hG.one
  have hsG := hG.size
  have HLF := hide (fun g W (h : ab W g 57 F) => hF.load0 h)
  have HLG := hide (fun g W (h : ab W g 57 G) => hG.load0 h)
  clear hF hG
  go_enter Try.func28, Try.ntmps28
  go_wp2_with fail
  refine (unhide HA).mono ?_
  rintro e W1 ⟨rfl, hb1⟩
  have HB1 := hide hb1
  clear hb1
  go_wp2_with (refine wpl_putNew rfl 57 _ _ rfl W1 _ F 57 rfl rfl (unhide HIF) (by rw [hsF]; rfl) (unhide HOF) ?_)
  refine (unhide HB _ (ba (unhide HB1) _)).mono ?_
  rintro e W2 ⟨rfl, hb2⟩
  have HB2 := hide (ba (bc (ba (unhide HB1) _) hb2) (.cells G 57))
  have HN1 := hide (((ab_new W1 57 F _ rfl).bel hb2).bel (ba (Below.refl _ _) (.cells G 57)))
  have HN2 := hide (ab_new W2 57 G _ rfl)
  clear hb2
  go_wp2_with (first | refine wpl_putNew rfl 57 _ _ rfl W2 _ G 57 rfl rfl (unhide HIG) (by rw [hsG]; rfl) (unhide HOG) ?_ | refine wpl_loadAt rfl 57 (.tmp 7) rfl _ rfl _ (unhide HLF _ _ (unhide HN1)) ?_ | refine wpl_loadAt rfl 57 (.tmp 9) rfl _ rfl _ (unhide HLG _ _ (unhide HN2)) ?_)
  go_ret
  exact ⟨rfl, unhide HB2⟩
set_option maxRecDepth 100000 in
set_option maxHeartbeats 8000000 in
theorem editM_ttt (a b : Ft) (hE : fE a b = true) (v1 v2 : Value) (s : ByteArray) (w : World) (ha : Calls Try.prog 38 #[v1, .string s] w fun e w' => e = .returned (.tuple #[ftv a, .bool true]) ∧ Below w.heap.size w w')
    (hb : ∀ W, Below w.heap.size w W → Calls Try.prog 38 #[v2, .string s] W fun e w' => e = .returned (.tuple #[ftv b, .bool true]) ∧ Below W.heap.size W w') :
    Calls Try.prog 28 #[v1, v2, .string s] w fun e w' => e = .returned (.int .i64 0) ∧ Below w.heap.size w w' := by
  have HA := hide ha
  have HB := hide hb
  clear ha hb
  obtain ⟨F, hF⟩ := fl_ex a
  obtain ⟨G, hG⟩ := fl_ex b
  have hne := hF.ne hG
  rw [hE] at hne
  clear hE
  rw [hF.v] at HA
  rw [hG.v] at HB
  have HIF := hide hF.info
  have HOF := hide hF.one
  have hsF := hF.size
  have HIG := hide hG.info
  have HOG := hide hG.one
  have hsG := hG.size
  have HLF := hide (fun g W (h : ab W g 57 F) => hF.load0 h)
  have HLG := hide (fun g W (h : ab W g 57 G) => hG.load0 h)
  clear hF hG
  go_enter Try.func28, Try.ntmps28
  go_wp2_with fail
  refine (unhide HA).mono ?_
  rintro e W1 ⟨rfl, hb1⟩
  have HB1 := hide hb1
  clear hb1
  go_wp2_with (refine wpl_putNew rfl 57 _ _ rfl W1 _ F 57 rfl rfl (unhide HIF) (by rw [hsF]; rfl) (unhide HOF) ?_)
  refine (unhide HB _ (ba (unhide HB1) _)).mono ?_
  rintro e W2 ⟨rfl, hb2⟩
  have HB2 := hide (ba (bc (ba (unhide HB1) _) hb2) (.cells G 57))
  have HN1 := hide (((ab_new W1 57 F _ rfl).bel hb2).bel (ba (Below.refl _ _) (.cells G 57)))
  have HN2 := hide (ab_new W2 57 G _ rfl)
  clear hb2
  go_wp2_with (first | refine wpl_putNew rfl 57 _ _ rfl W2 _ G 57 rfl rfl (unhide HIG) (by rw [hsG]; rfl) (unhide HOG) ?_ | refine wpl_loadAt rfl 57 (.tmp 7) rfl _ rfl _ (unhide HLF _ _ (unhide HN1)) ?_ | refine wpl_loadAt rfl 57 (.tmp 9) rfl _ rfl _ (unhide HLG _ _ (unhide HN2)) ?_)
  go_ret
  exact ⟨rfl, unhide HB2⟩
theorem editM_of (a b : Ft) (x y : Bool) (v1 v2 : Value) (s : ByteArray) (w : World) (ha : Calls Try.prog 38 #[v1, .string s] w fun e w' => e = .returned (.tuple #[ftv a, .bool x]) ∧ Below w.heap.size w w')
    (hb : ∀ W, Below w.heap.size w W → Calls Try.prog 38 #[v2, .string s] W fun e w' => e = .returned (.tuple #[ftv b, .bool y]) ∧ Below W.heap.size W w') :
    Calls Try.prog 28 #[v1, v2, .string s] w fun e w' => e = .returned (.int .i64 (kB x y (fE a b))) ∧ Below w.heap.size w w' := by
  cases x
  · cases y
    · cases hE : fE a b
      · exact editM_fff a b hE v1 v2 s w ha hb
      · exact editM_fft a b hE v1 v2 s w ha hb
    · exact editM_ft a b v1 v2 s w ha hb
  · cases y
    · exact editM_tf a b v1 v2 s w ha hb
    · cases hE : fE a b
      · exact editM_ttf a b hE v1 v2 s w ha hb
      · exact editM_ttt a b hE v1 v2 s w ha hb
theorem knd_kB (B L : List Ft) (s : ByteArray) : kB (gtF B s).isSome (gtF L s).isSome (fE ((gtF B s).getD ft0) ((gtF L s).getD ft0)) = knd B L s := by
  unfold knd kB
  cases gtF B s with
  | none =>
    cases gtF L s with
    | none => simp [fE_refl]
    | some b => simp
  | some a =>
    cases gtF L s with
    | none => simp
    | some b => simp
theorem editM_any (u1 : Option Addr) (p1 o1 n1 c1 : Nat) (B : List Ft) (u2 : Option Addr) (p2 o2 n2 c2 : Nat) (L : List Ft) (s : ByteArray) (w : World) (hl1 : B.length = n1) (hn1 : n1 ≤ 1048576) (hu1 : SlG ftc 15 w u1 p1 o1 B) (hl2 : L.length = n2) (hn2 : n2 ≤ 1048576) (hu2 : SlG ftc 15 w u2 p2 o2 L) :
    Calls Try.prog 28 #[.slice u1 n1 c1, .slice u2 n2 c2, .string s] w fun e w' => e = .returned (.int .i64 (knd B L s)) ∧ Below w.heap.size w w' := by
  rw [← knd_kB]
  exact editM_of _ _ _ _ _ _ s w (getM_any u1 p1 o1 n1 c1 B s w hl1 hn1 hu1) (fun W h => getM_any u2 p2 o2 n2 c2 L s W hl2 hn2 (hu2.bel h))
set_option maxHeartbeats 1000000 in
theorem codeM_any (u : Option Addr) (p po n cu : Nat) (fs : List Ft) (w : World) (hl : fs.length = n) (hn : n ≤ 1048576) (hcu : n ≤ cu) (hs : ∀ f ∈ fs, f.nm.size ≤ maxLen ∧ f.on.size ≤ maxLen ∧ f.ov.size ≤ maxLen) (hu : SlG ftc 15 w u p po fs) :
    Calls Try.prog 26 #[.slice u n cu] w fun e w' => (∃ c ab, e = .returned (.int .i64 c) ∧ Chk fs c ab) ∧ Below w.heap.size w w' := by
  have HC := hide (checkM_any u p po n cu fs w hl hn hcu hs hu)
  clear hs hu hl
  go_enter Try.func26, Try.ntmps26
  go_wp2_with fail
  refine (unhide HC).mono ?_
  rintro e W1 ⟨⟨v1, c, v3, ab, rfl, hck, hsr, hok⟩, hb⟩
  have HCK := hide hck
  have HB := hide hb
  clear hck hsr hok hb
  go_wp2_with fail
  go_ret
  exact ⟨⟨c, ab, rfl, unhide HCK⟩, unhide HB⟩
end Go.Proofs.Ytkkmikgeppkhiaa
