/-
  The program's Merge answers as the model at every three lists of features; it changes none of them, and its answer owns its memory.
-/
import Derived.Test.YtkkmikgeppkhiaaMrc
import Derived.Test.YtkkmikgeppkhiaaMrd
import Derived.Test.YtkkmikgeppkhiaaMre
import Derived.Test.YtkkmikgeppkhiaaMrf
import Derived.Test.YtkkmikgeppkhiaaFtMark
import Derived.Test.YtkkmikgeppkhiaaChecked
import Derived.Test.YtkkmikgeppkhiaaRows
import Derived.ChangeOld
import Derived.Lib.SmallJoins
namespace Go.Proofs.Ytkkmikgeppkhiaa
open Go.ChangeShapes Go.WideShapes Go.ChangeAt Go.RowKit Go.Joins
set_option linter.unusedVariables false
set_option linter.unusedSimpArgs false

/-- a row of features of one's own -/
def FRow (w : World) (B : Nat) (v : Value) (l : List Ft) : Prop := w.ownsRow B 57 15 v l.length (flatG ftc l)
theorem FRow.bel {w w' : World} {B : Nat} {v : Value} {l : List Ft} (h : FRow w B v l) (hb : Below w.heap.size w w') : FRow w' B v l := own_bel h hb
theorem FRow.mw {w w' : World} {B g : Nat} {v : Value} {l : List Ft} (h : FRow w B v l) (hm : Mw g w w') (hg : g < B) : FRow w' B v l :=
  own_kept h (fun k hk => by have := own_ge h k hk; exact hm.block k this.2 (by omega))
theorem SRow.mw {w w' : World} {B g : Nat} {v : Value} {l : List ByteArray} (h : SRow w B v l) (hm : Mw g w w') (hg : g < B) : SRow w' B v l :=
  own_kept h (fun k hk => by have := own_ge h k hk; exact hm.block k this.2 (by omega))
theorem FRow.form {w : World} {B : Nat} {v : Value} {l : List Ft} (h : FRow w B v l) : ∃ u c p, v = .slice u l.length c ∧ SlG ftc 15 w u p 0 l := by
  obtain ⟨u, c, p, e, _, hs⟩ := own_slF h
  exact ⟨u, c, p, e, hs⟩
theorem SRow.form {w : World} {B : Nat} {v : Value} {l : List ByteArray} (h : SRow w B v l) : ∃ u c, v = .slice u l.length c ∧ StAt w u l := by
  obtain ⟨u, c, rfl, _⟩ := own_form h
  exact ⟨u, c, rfl, (SRow.stAt h).2⟩
theorem vb.mw' {w w' : World} {p g t : Nat} {L : List Value} (h : vb w p t L) (hm : Mw g w w') (hg : p ≠ g) : vb w' p t L := (hm.block p h.lt hg).trans h
/-- what one row's marks leave of the other one -/
theorem FRow.other {w w' : World} {B B' n : Nat} {v v' : Value} {l : List Ft} {M : List ByteArray} (h : FRow w B v l) (h' : SRow w B' v' M) (hm : (n = 0 → w' = w) ∧ (n ≠ 0 → ∃ g, v.ownBlock = some g ∧ Mw g w w')) : SRow w' B' v' M := by
  by_cases hn : n = 0
  · rw [hm.1 hn]; exact h'
  · obtain ⟨g, hg, hw⟩ := hm.2 hn
    refine own_kept h' (fun k hk => hw.block k (own_ge h' k hk).2 (fun e => ?_))
    subst e
    exact own_apart h h' (by decide) hg hk
theorem SRow.other {w w' : World} {B B' n m : Nat} {v v' : Value} {M : List ByteArray} {L : List Value} (h : SRow w B v M) (h' : w.ownsRow B' 57 15 v' m L) (hm : (n = 0 → w' = w) ∧ (n ≠ 0 → ∃ g, v.ownBlock = some g ∧ Mw g w w')) : w'.ownsRow B' 57 15 v' m L := by
  by_cases hn : n = 0
  · rw [hm.1 hn]; exact h'
  · obtain ⟨g, hg, hw⟩ := hm.2 hn
    refine own_kept h' (fun k hk => hw.block k (own_ge h' k hk).2 (fun e => ?_))
    subst e
    exact own_apart h h' (by decide) hg hk
theorem Mw.bel' {n B B' : Nat} {u : Option Addr} {w w' A : World} (hm : (n = 0 → w' = w) ∧ (n ≠ 0 → ∃ g, u = some ⟨g, 0, none⟩ ∧ B ≤ g ∧ Mw g w w')) (hA : Below B' A w) (hB : B' ≤ B) (hs : B' ≤ w.heap.size) : Below B' A w' := by
  by_cases hn : n = 0
  · rw [hm.1 hn]; exact hA
  · obtain ⟨g, _, hg, hw⟩ := hm.2 hn
    exact hA.trans (hw.below (by omega) hs)
theorem Chk_ex (fs : List Ft) : ∃ c ab, Chk fs c ab ∧ ab.length ≤ 4096 ∧ (c = 0 → ab = []) := by
  by_cases h1 : 4096 < fs.length
  · exact ⟨2, [], chk_long h1, by simp, fun _ => rfl⟩
  by_cases h2 : 30 < fs.length
  · exact ⟨10, [], chk_many h1 h2, by simp, fun _ => rfl⟩
  cases h3 : fs.find? fun f => !ftr f with
  | some f => exact ⟨1, _, chk_bad h2 h3, by simp, fun h => by cases h⟩
  | none =>
    cases h4 : twi fs with
    | some f => exact ⟨7, _, chk_twice h2 h3 h4, by simp, fun h => by cases h⟩
    | none =>
      cases h5 : fs.find? fun f => (wrg fs f).isSome with
      | some f => exact ⟨6, _, chk_name h2 h3 h4 h5, by simp, fun h => by cases h⟩
      | none =>
        obtain ⟨b, hb⟩ := Bst_ex (sc (nms fs)) fs.length
        have hone := nms_one (fun f hf => by have := find_not h3 hf; simpa using this) (fun f hf => by have := find_not h5 hf; simpa using this)
        refine ⟨_, _, chk_end h2 h3 h4 h5 hb, ?_, ?_⟩
        · rw [List.length_map]
          have := hb.len hone (by rw [nms_len]; exact Nat.le_refl _)
          rw [nms_len] at this
          omega
        · intro h
          by_cases e : b = []
          · rw [e]; rfl
          · rw [if_neg e] at h; cases h
theorem MgAns.len {B O T out : List Ft} {c : Int} {nms : List ByteArray} (h : MgAns B O T out c nms) : out.length ≤ 10000 ∧ nms.length ≤ 10000 := by
  obtain ⟨d, hd, h⟩ := h
  rcases h with ⟨_, _, rfl, rfl⟩ | ⟨rfl, cl, hc, h⟩
  · exact ⟨by simp, by simp⟩
  · have hF := hd.zero
    have f1 := hF B (by simp)
    have f2 := hF O (by simp)
    have f3 := hF T (by simp)
    have l1 := f1.len
    have l2 := f2.len
    have l3 := f3.len
    rcases h with ⟨_, _, rfl, rfl⟩ | ⟨_, k, ab, hk, h⟩
    · refine ⟨by simp, ?_⟩
      have e : nms = (srt (B.map Ft.nm ++ O.map Ft.nm ++ T.map Ft.nm)).filter (clM B O T) := by
        refine Nms.uniq (P := fun s => clM B O T s = true) ⟨hc.1, fun s => ?_⟩ (clM_nms (srt_nms _))
        rw [hc.2]
        show clsh (eds B O) (eds B T) s = true ↔ clM B O T s = true
        rw [clsh_clM (fun f hf => f1.nm0 hf) (fun f hf => f2.nm0 hf) (fun f hf => f3.nm0 hf)]
      have h1 := List.length_filter_le (clM B O T) (srt (B.map Ft.nm ++ O.map Ft.nm ++ T.map Ft.nm))
      have h2 := foldl_ins_len (B.map Ft.nm ++ O.map Ft.nm ++ T.map Ft.nm) []
      unfold srt at h1 e
      simp only [List.length_nil, List.length_append, List.length_map] at h2
      rw [e]
      omega
    · have hm := mrg_len B O T
      obtain ⟨c2, ab2, hc2, hl2, _⟩ := Chk_ex (mrg B O T)
      have ha : ab.length ≤ 4096 := by rw [(hk.uniq hc2).2]; exact hl2
      rcases h with ⟨_, _, rfl, rfl⟩ | ⟨_, _, rfl, rfl⟩
      · exact ⟨by simp, by omega⟩
      · exact ⟨by omega, by simp⟩
set_option maxRecDepth 100000 in
set_option maxHeartbeats 8000000 in
theorem fnExactMerge_walk (u1 : Option Addr) (n1 cap1 p1 po1 : Nat) (B : List Ft) (u2 : Option Addr) (n2 cap2 p2 po2 : Nat) (O : List Ft) (u3 : Option Addr) (n3 cap3 p3 po3 : Nat) (T : List Ft) (w : World) (hn1 : n1 ≤ 9223372036854775807) (hl1 : B.length = n1) (hr1 : (∀ f ∈ B, f.nm.size ≤ maxLen ∧ f.on.size ≤ maxLen ∧ f.ov.size ≤ maxLen) ∧ SlG ftc 15 w u1 p1 po1 B) (hn2 : n2 ≤ 9223372036854775807) (hl2 : O.length = n2) (hr2 : (∀ f ∈ O, f.nm.size ≤ maxLen ∧ f.on.size ≤ maxLen ∧ f.ov.size ≤ maxLen) ∧ SlG ftc 15 w u2 p2 po2 O) (hn3 : n3 ≤ 9223372036854775807) (hl3 : T.length = n3) (hr3 : (∀ f ∈ T, f.nm.size ≤ maxLen ∧ f.on.size ≤ maxLen ∧ f.ov.size ≤ maxLen) ∧ SlG ftc 15 w u3 p3 po3 T) :
    Calls Try.prog 4 #[.slice u1 n1 cap1, .slice u2 n2 cap2, .slice u3 n3 cap3] w fun e w' => e = .returned (.bool true) ∧ Below w.heap.size w w' := by
  obtain ⟨hs1, hu1⟩ := hr1
  obtain ⟨hs2, hu2⟩ := hr2
  obtain ⟨hs3, hu3⟩ := hr3
  have HSZ1 := hide (ft_sz u1 p1 po1 n1 cap1 B w hl1 hn1 hs1 hu1)
  have HSZ2 := hide (fun r X (h0 : 0 ≤ r) (h1 : r ≤ 1048576) (hX : Below w.heap.size w X) => ft_szq r h0 h1 u2 p2 po2 n2 cap2 O X hl2 hn2 hs2 (hu2.bel hX))
  have HSZ3 := hide (fun r X (h0 : 0 ≤ r) (h1 : r ≤ 1048576) (hX : Below w.heap.size w X) => ft_szq r h0 h1 u3 p3 po3 n3 cap3 T X hl3 hn3 hs3 (hu3.bel hX))
  have HT1 := hide (fun (hb : n1 ≤ 1048576) X (hX : Below w.heap.size w X) => ft_to u1 p1 po1 n1 cap1 B X hl1 hb (hu1.bel hX))
  have HT2 := hide (fun (hb : n2 ≤ 1048576) X (hX : Below w.heap.size w X) => ft_to u2 p2 po2 n2 cap2 O X hl2 hb (hu2.bel hX))
  have HT3 := hide (fun (hb : n3 ≤ 1048576) X (hX : Below w.heap.size w X) => ft_to u3 p3 po3 n3 cap3 T X hl3 hb (hu3.bel hX))
  have HM := hide (fun (hb1 : n1 ≤ 1048576) (hb2 : n2 ≤ 1048576) (hb3 : n3 ≤ 1048576) g h k X (hX : vb X g 57 (flatG ftc B)) (hY : vb X h 57 (flatG ftc O)) (hZ : vb X k 57 (flatG ftc T)) => mergeM_any (some ⟨g, 0, none⟩) g 0 n1 n1 B (some ⟨h, 0, none⟩) h 0 n2 n2 O (some ⟨k, 0, none⟩) k 0 n3 n3 T X hl1 hl2 hl3 ⟨by rw [hl1]; exact hb1, Nat.le_of_eq hl1, hX.slG ftc_len, hs1⟩ ⟨by rw [hl2]; exact hb2, Nat.le_of_eq hl2, hY.slG ftc_len, hs2⟩ ⟨by rw [hl3]; exact hb3, Nat.le_of_eq hl3, hZ.slG ftc_len, hs3⟩)
  have HP := hide (fun (hb1 : n1 ≤ 1048576) (hb2 : n2 ≤ 1048576) (hb3 : n3 ≤ 1048576) g h k X (hX : vb X g 57 (flatG ftc B)) (hY : vb X h 57 (flatG ftc O)) (hZ : vb X k 57 (flatG ftc T)) => mergeP_any (some ⟨g, 0, none⟩) g 0 n1 n1 B (some ⟨h, 0, none⟩) h 0 n2 n2 O (some ⟨k, 0, none⟩) k 0 n3 n3 T X hl1 hl2 hl3 ⟨by rw [hl1]; exact hb1, Nat.le_of_eq hl1, hX.slG ftc_len, hs1⟩ ⟨by rw [hl2]; exact hb2, Nat.le_of_eq hl2, hY.slG ftc_len, hs2⟩ ⟨by rw [hl3]; exact hb3, Nat.le_of_eq hl3, hZ.slG ftc_len, hs3⟩)
  have HE1 := hide (fun (hb : n1 ≤ 1048576) g g' X (hX : vb X g 57 (flatG ftc B)) (hY : vb X g' 57 (flatG ftc B)) => ft_same (some ⟨g, 0, none⟩) (some ⟨g', 0, none⟩) g 0 g' 0 n1 n1 n1 B X hl1 hb (hX.slG ftc_len) (hY.slG ftc_len))
  have HE2 := hide (fun (hb : n2 ≤ 1048576) g g' X (hX : vb X g 57 (flatG ftc O)) (hY : vb X g' 57 (flatG ftc O)) => ft_same (some ⟨g, 0, none⟩) (some ⟨g', 0, none⟩) g 0 g' 0 n2 n2 n2 O X hl2 hb (hX.slG ftc_len) (hY.slG ftc_len))
  have HE3 := hide (fun (hb : n3 ≤ 1048576) g g' X (hX : vb X g 57 (flatG ftc T)) (hY : vb X g' 57 (flatG ftc T)) => ft_same (some ⟨g, 0, none⟩) (some ⟨g', 0, none⟩) g 0 g' 0 n3 n3 n3 T X hl3 hb (hX.slG ftc_len) (hY.slG ftc_len))
  have HFL1 : Hid ((flatG ftc B).length = n1 * 15) := hide (by rw [flatG_len ftc_len, hl1])
  have HFL2 : Hid ((flatG ftc O).length = n2 * 15) := hide (by rw [flatG_len ftc_len, hl2])
  have HFL3 : Hid ((flatG ftc T).length = n3 * 15) := hide (by rw [flatG_len ftc_len, hl3])
  clear hu1 hs1 hl1 hu2 hs2 hl2 hu3 hs3 hl3
  go_enter Try.func4, Try.ntmps4
  go_wp2_with fail
  refine (unhide HSZ1).mono ?_
  rintro e W0 ⟨⟨r, rfl, hr⟩, hb0⟩
  have HB0 := hide hb0
  clear hb0 HSZ1
  by_cases hz : r < 0
  · have t : decide (r < 0) = true := decide_eq_true hz
    clear hr
    go_wp2_with fail
    go_ret
    exact ⟨rfl, unhide HB0⟩
  have t : decide (r < 0) = false := decide_eq_false hz
  obtain ⟨hb1, hrl⟩ := hr (by omega)
  have hr0 : 0 ≤ r := by omega
  clear hr
  go_wp2_with fail
  refine (unhide HSZ2 r _ hr0 hrl (unhide HB0)).mono ?_
  rintro e W00 ⟨⟨r2, rfl, hr⟩, hb0⟩
  have HB1 := hide (bc (unhide HB0) hb0)
  clear hb0 HSZ2 HB0 t hz hrl hr0
  by_cases hz : r2 < 0
  · have t : decide (r2 < 0) = true := decide_eq_true hz
    clear hr
    go_wp2_with fail
    go_ret
    exact ⟨rfl, unhide HB1⟩
  have t : decide (r2 < 0) = false := decide_eq_false hz
  obtain ⟨hb2, hrl⟩ := hr (by omega)
  have hr0 : 0 ≤ r2 := by omega
  clear hr
  go_wp2_with fail
  refine (unhide HSZ3 r2 _ hr0 hrl (unhide HB1)).mono ?_
  rintro e W000 ⟨⟨r3, rfl, hr⟩, hb0⟩
  have HB00 := hide (bc (unhide HB1) hb0)
  clear hb0 HSZ3 HB1 t hz hrl hr0
  by_cases hz : r3 < 0
  · have t : decide (r3 < 0) = true := decide_eq_true hz
    clear hr
    go_wp2_with fail
    go_ret
    exact ⟨rfl, unhide HB00⟩
  have t : decide (r3 < 0) = false := decide_eq_false hz
  have hb3 : n3 ≤ 1048576 := (hr (by omega)).1
  have HT1 := hide (unhide HT1 hb1)
  have HT2 := hide (unhide HT2 hb2)
  have HT3 := hide (unhide HT3 hb3)
  have HM := hide (unhide HM hb1 hb2 hb3)
  have HP := hide (unhide HP hb1 hb2 hb3)
  have HE1 := hide (unhide HE1 hb1)
  have HE2 := hide (unhide HE2 hb2)
  have HE3 := hide (unhide HE3 hb3)
  clear hr
  go_wp2_with fail
  refine (unhide HT1 _ (unhide HB00)).mono ?_
  rintro e W1 ⟨⟨g1, rfl, hg1, hk⟩, hb⟩
  have K1 := hide (bc (unhide HB00) hb)
  have K2 := hide (hk)
  clear hb hk hg1
  go_wp2_with fail
  refine (unhide HT2 _ (unhide K1)).mono ?_
  rintro e W2 ⟨⟨g2, rfl, hg2, hk⟩, hb⟩
  have K3 := hide (bc (unhide K1) hb)
  have K4 := hide ((unhide K2).bel hb)
  have K5 := hide (hk)
  clear hb hk hg2
  go_wp2_with fail
  refine (unhide HT3 _ (unhide K3)).mono ?_
  rintro e W2b ⟨⟨g2b, rfl, hg2b, hk⟩, hb⟩
  have K6 := hide (bc (unhide K3) hb)
  have K7 := hide ((unhide K4).bel hb)
  have K8 := hide ((unhide K5).bel hb)
  have K9 := hide (hk)
  clear hb hk hg2b
  go_wp2_with fail
  refine (unhide HM _ _ _ _ (unhide K7) (unhide K8) (unhide K9)).mono ?_
  rintro e W3 ⟨⟨v1, c, es, s1, ns, rfl, hansM, hrow, hsrow⟩, hb⟩
  have K10 := hide (bc (unhide K6) hb)
  have hans := hansM.mg
  have hlen := hans.len.1
  have hlen2 := hans.len.2
  have hrow2 : FRow W3 W2b.heap.size v1 es := hrow
  have HPX : Hid (∀ g h k X, vb X g 57 (flatG ftc B) → vb X h 57 (flatG ftc O) → vb X k 57 (flatG ftc T) → Calls Try.prog 16 #[.slice (some ⟨g, 0, none⟩) n1 n1, .slice (some ⟨h, 0, none⟩) n2 n2, .slice (some ⟨k, 0, none⟩) n3 n3] X fun e w' => (∃ a k b j, e = .returned (.tuple #[.slice a es.length k, .int .i64 c, .slice b ns.length j]) ∧ FRow w' X.heap.size (.slice a es.length k) es ∧ SRow w' X.heap.size (.slice b ns.length j) ns) ∧ Below X.heap.size X w') := hide (fun g h k X hX hY hZ => (unhide HP g h k X hX hY hZ).mono (by
    rintro e w' ⟨⟨v, c', es', v3, ns', rfl, hans', hr', hsr'⟩, hb'⟩
    obtain ⟨rfl, rfl, rfl⟩ := hans'.uniq hans
    have hr2 : FRow w' X.heap.size v es' := hr'
    obtain ⟨a, k, p, rfl, _⟩ := hr2.form
    obtain ⟨b, j, rfl, _⟩ := hsr'.form
    exact ⟨⟨a, k, b, j, rfl, hr2, hsr'⟩, hb'⟩))
  obtain ⟨aw, kw, pw, rfl, hsl⟩ := hrow2.form
  obtain ⟨bw, jw, rfl, hst⟩ := hsrow.form
  have HMB : Hid (∀ W, Below W3.heap.size W3 W → SlG ftc 15 W aw pw 0 es) := hide (fun W hW => hsl.bel hW)
  have HMS : Hid (∀ W, Below W3.heap.size W3 W → StAt W bw ns) := hide (fun W hW => hst.bel hW)
  have HSB := hide (fun (a b : Option Addr) (q1 q2 j1 j2 : Nat) (W : World) (ha : SlG ftc 15 W a q1 0 es) (hb' : SlG ftc 15 W b q2 0 es) => ft_same a b q1 0 q2 0 es.length j1 j2 es W rfl (by omega) ha hb')
  have HSS := hide (fun (a b : Option Addr) (j1 j2 : Nat) (W : World) (ha : StAt W a ns) (hb' : StAt W b ns) => st_same a b ns.length j1 j2 ns W rfl (by omega) ha hb')
  have HMK := hide (fun (a : Option Addr) (k BB : Nat) (W : World) (h : FRow W BB (.slice a es.length k) es) (hB : BB ≤ W.heap.size) => ft_markW a BB es.length k 1 es W rfl (by omega) (by omega) (by omega) h hB)
  have HMKS := hide (fun (a : Option Addr) (k BB q : Nat) (W : World) (h : SRow W BB (.slice a ns.length k) ns) (h0 : 0 < q) (h1 : q ≤ 60000000) => st_mark a BB ns.length k q ns W rfl (by omega) h0 h1 h)
  have HFM := hide (fun (a : Option Addr) (k BB : Nat) (W : World) (h : FRow W BB (.slice a es.length k) es) => h.form)
  have HSM := hide (fun (a : Option Addr) (k BB : Nat) (W : World) (h : SRow W BB (.slice a ns.length k) ns) => (SRow.stAt h).2)
  obtain ⟨N, hN⟩ : ∃ N, es.length = N := ⟨_, rfl⟩
  obtain ⟨M, hM⟩ : ∃ M, ns.length = M := ⟨_, rfl⟩
  rw [hN] at HPX HSB HMK HFM hlen ⊢
  rw [hM] at HPX HSS HMKS HSM hlen2 ⊢
  have HMF : Hid (∀ (a : Option Addr) (k BB : Nat) (W : World), W.ownsRow BB 57 15 (.slice a N k) N (flatG ftc (mkFs 1 N)) → ∃ p, SlG ftc 15 W a p 0 (mkFs 1 N)) := hide (fun a k BB W h => by
    have h2 : FRow W BB (.slice a N k) (mkFs 1 N) := by unfold FRow; rw [mkFs_len]; exact h
    obtain ⟨u9, c9, p9, e9, h9⟩ := h2.form
    injection e9 with q1 q2 q3
    subst q1
    exact ⟨p9, h9⟩)
  have HMT : Hid (∀ (a : Option Addr) (k BB q : Nat) (W : World), SRow W BB (.slice a M k) (mkS q M) → StAt W a (mkS q M)) := hide (fun a k BB q W h => (SRow.stAt h).2)
  have cc : (c != c) = false := by simp
  have n0 : (0 : Int) ≤ (N : Int) := Int.natCast_nonneg _
  have m0 : (0 : Int) ≤ (M : Int) := Int.natCast_nonneg _
  clear hans hansM hrow hrow2 hsrow hsl hst hN hM HP HM hb
  have KD : Hid (Below W3.heap.size W3 W3) := hide (Below.refl _ _)
  go_wp2_with fail
  refine (unhide HT1 _ (unhide K10)).mono ?_
  rintro e W4 ⟨⟨g4, rfl, hg4, hk⟩, hb⟩
  have K11 := hide (bc (unhide K10) hb)
  have K12 := hide ((unhide KD).trans (hb.mono (unhide KD).size))
  have K13 := hide (hk)
  have HG4 : Hid (W3.heap.size ≤ g4 ∧ g4 < W4.heap.size) := hide ⟨hg4, hk.lt⟩
  have HS4 := hide hb.size
  clear hb hk hg4
  go_wp2_with fail
  refine (unhide HT2 _ (unhide K11)).mono ?_
  rintro e W5 ⟨⟨g5, rfl, hg5, hk⟩, hb⟩
  have K14 := hide (bc (unhide K11) hb)
  have K15 := hide ((unhide K12).trans (hb.mono (unhide K12).size))
  have K16 := hide ((unhide K13).bel hb)
  have K17 := hide (hk)
  have HG5 : Hid (W4.heap.size ≤ g5 ∧ g5 < W5.heap.size) := hide ⟨hg5, hk.lt⟩
  have HS5 := hide hb.size
  clear hb hk hg5
  go_wp2_with fail
  refine (unhide HT3 _ (unhide K14)).mono ?_
  rintro e W5b ⟨⟨g5b, rfl, hg5b, hk⟩, hb⟩
  have K18 := hide (bc (unhide K14) hb)
  have K19 := hide ((unhide K15).trans (hb.mono (unhide K15).size))
  have K20 := hide ((unhide K16).bel hb)
  have K21 := hide ((unhide K17).bel hb)
  have K22 := hide (hk)
  have HG5b : Hid (W5.heap.size ≤ g5b ∧ g5b < W5b.heap.size) := hide ⟨hg5b, hk.lt⟩
  have HS5b := hide hb.size
  clear hb hk hg5b
  have KZ : Hid (Below W5b.heap.size W5b W5b) := hide (Below.refl _ _)
  have HS3 : Hid (w.heap.size ≤ W3.heap.size) := hide (unhide K10).size
  go_wp2_with fail
  refine (unhide HPX _ _ _ _ (unhide K20) (unhide K21) (unhide K22)).mono ?_
  rintro e W6 ⟨⟨a6, k6, b6, j6, rfl, hr6, hs6⟩, hb⟩
  have K23 := hide (bc (unhide K18) hb)
  have K24 := hide ((unhide K19).trans (hb.mono (unhide K19).size))
  have K25 := hide ((unhide K20).bel hb)
  have K26 := hide ((unhide K21).bel hb)
  have K27 := hide ((unhide K22).bel hb)
  have K28 := hide ((unhide KZ).trans (hb.mono (unhide KZ).size))
  have K29 := hide (hr6)
  have K30 := hide (hs6)
  clear hb hr6 hs6
  obtain ⟨_, _, q6, e6, hq6⟩ := unhide HFM _ _ _ _ (unhide K29)
  injection e6 with e61 e62 e63
  subst e61
  have HQ6 := hide hq6
  clear hq6 e62 e63
  go_wp2_with fail
  refine (unhide HSB a6 aw _ _ k6 kw _ (unhide HQ6) (unhide HMB _ (unhide K24))).mono ?_
  rintro e W7 ⟨rfl, hb⟩
  have K31 := hide (bc (unhide K23) hb)
  have K32 := hide ((unhide K24).trans (hb.mono (unhide K24).size))
  have K33 := hide ((unhide K25).bel hb)
  have K34 := hide ((unhide K26).bel hb)
  have K35 := hide ((unhide K27).bel hb)
  have K36 := hide ((unhide K28).trans (hb.mono (unhide K28).size))
  have K37 := hide ((unhide K29).bel hb)
  have K38 := hide ((unhide K30).bel hb)
  clear hb HQ6
  go_wp2_with fail
  refine (unhide HSS b6 bw j6 jw _ (unhide HSM _ _ _ _ (unhide K38)) (unhide HMS _ (unhide K32))).mono ?_
  rintro e W7s ⟨rfl, hb⟩
  have K39 := hide (bc (unhide K31) hb)
  have K40 := hide ((unhide K32).trans (hb.mono (unhide K32).size))
  have K41 := hide ((unhide K33).bel hb)
  have K42 := hide ((unhide K34).bel hb)
  have K43 := hide ((unhide K35).bel hb)
  have K44 := hide ((unhide K36).trans (hb.mono (unhide K36).size))
  have K45 := hide ((unhide K37).bel hb)
  have K46 := hide ((unhide K38).bel hb)
  clear hb
  go_wp2_with fail
  refine (unhide HT1 _ (unhide K39)).mono ?_
  rintro e W81 ⟨⟨g81, rfl, hg81, hk⟩, hb⟩
  have K47 := hide (bc (unhide K39) hb)
  have K48 := hide ((unhide K40).trans (hb.mono (unhide K40).size))
  have K49 := hide ((unhide K41).bel hb)
  have K50 := hide ((unhide K42).bel hb)
  have K51 := hide ((unhide K43).bel hb)
  have K52 := hide ((unhide K44).trans (hb.mono (unhide K44).size))
  have K53 := hide ((unhide K45).bel hb)
  have K54 := hide ((unhide K46).bel hb)
  have K55 := hide (hk)
  clear hb hk hg81
  go_wp2_with fail
  refine (unhide HE1 _ _ _ (unhide K49) (unhide K55)).mono ?_
  rintro e W91 ⟨rfl, hb⟩
  have K56 := hide (bc (unhide K47) hb)
  have K57 := hide ((unhide K48).trans (hb.mono (unhide K48).size))
  have K58 := hide ((unhide K49).bel hb)
  have K59 := hide ((unhide K50).bel hb)
  have K60 := hide ((unhide K51).bel hb)
  have K61 := hide ((unhide K52).trans (hb.mono (unhide K52).size))
  have K62 := hide ((unhide K53).bel hb)
  have K63 := hide ((unhide K54).bel hb)
  clear hb
  go_wp2_with fail
  refine (unhide HT2 _ (unhide K56)).mono ?_
  rintro e W82 ⟨⟨g82, rfl, hg82, hk⟩, hb⟩
  have K64 := hide (bc (unhide K56) hb)
  have K65 := hide ((unhide K57).trans (hb.mono (unhide K57).size))
  have K66 := hide ((unhide K58).bel hb)
  have K67 := hide ((unhide K59).bel hb)
  have K68 := hide ((unhide K60).bel hb)
  have K69 := hide ((unhide K61).trans (hb.mono (unhide K61).size))
  have K70 := hide ((unhide K62).bel hb)
  have K71 := hide ((unhide K63).bel hb)
  have K72 := hide (hk)
  clear hb hk hg82
  go_wp2_with fail
  refine (unhide HE2 _ _ _ (unhide K67) (unhide K72)).mono ?_
  rintro e W92 ⟨rfl, hb⟩
  have K73 := hide (bc (unhide K64) hb)
  have K74 := hide ((unhide K65).trans (hb.mono (unhide K65).size))
  have K75 := hide ((unhide K66).bel hb)
  have K76 := hide ((unhide K67).bel hb)
  have K77 := hide ((unhide K68).bel hb)
  have K78 := hide ((unhide K69).trans (hb.mono (unhide K69).size))
  have K79 := hide ((unhide K70).bel hb)
  have K80 := hide ((unhide K71).bel hb)
  clear hb
  go_wp2_with fail
  refine (unhide HT3 _ (unhide K73)).mono ?_
  rintro e W83 ⟨⟨g83, rfl, hg83, hk⟩, hb⟩
  have K81 := hide (bc (unhide K73) hb)
  have K82 := hide ((unhide K74).trans (hb.mono (unhide K74).size))
  have K83 := hide ((unhide K75).bel hb)
  have K84 := hide ((unhide K76).bel hb)
  have K85 := hide ((unhide K77).bel hb)
  have K86 := hide ((unhide K78).trans (hb.mono (unhide K78).size))
  have K87 := hide ((unhide K79).bel hb)
  have K88 := hide ((unhide K80).bel hb)
  have K89 := hide (hk)
  clear hb hk hg83
  go_wp2_with fail
  refine (unhide HE3 _ _ _ (unhide K85) (unhide K89)).mono ?_
  rintro e W93 ⟨rfl, hb⟩
  have K90 := hide (bc (unhide K81) hb)
  have K91 := hide ((unhide K82).trans (hb.mono (unhide K82).size))
  have K92 := hide ((unhide K83).bel hb)
  have K93 := hide ((unhide K84).bel hb)
  have K94 := hide ((unhide K85).bel hb)
  have K95 := hide ((unhide K86).trans (hb.mono (unhide K86).size))
  have K96 := hide ((unhide K87).bel hb)
  have K97 := hide ((unhide K88).bel hb)
  clear hb
  go_wp2_with fail
  refine (ft_mark (some ⟨g4, 0, none⟩) g4 n1 n1 1 (flatG ftc B) _ (unhide HFL1) hb1 (by omega) (by omega) rfl (unhide K92)).mono ?_
  rintro e WC ⟨he, hmw⟩
  obtain ⟨k1, hk1⟩ : ∃ k1 : Nat, (k1 : Int) = ((1 : Nat) : Int) + 15 * (n1 : Int) := ⟨1 + 15 * n1, by omega⟩
  obtain rfl : e = .returned (.int .i64 (k1 : Int)) := he.trans (ret_int hk1.symm)
  clear he
  obtain ⟨z1, z2⟩ := unhide HG4
  obtain ⟨z3, z4⟩ := unhide HG5
  obtain ⟨z8, z9⟩ := unhide HG5b
  have z5 := unhide HS4
  have z6 := unhide HS5
  have z7 := unhide HS3
  have z10 := unhide HS5b
  have K98 := hide ((unhide K90).trans (hmw.below (by omega) (unhide K90).size))
  have K99 := hide ((unhide K91).trans (hmw.below (by omega) (unhide K91).size))
  have ZA := hide (Nat.le_trans (unhide K95).size hmw.size)
  have K100 := hide ((unhide K93).mw' hmw (by omega))
  have K101 := hide ((unhide K94).mw' hmw (by omega))
  have K102 := hide ((unhide K96).mw hmw (by omega))
  have K103 := hide ((unhide K97).mw hmw (by omega))
  clear hmw
  clear z1 z2 z3 z4 z5 z6 z7 z8 z9 z10
  have hk1b : k1 ≤ 15728641 := by omega
  have hk1c : 0 < k1 := by omega
  clear hk1
  go_wp2_with fail
  refine (ft_mark (some ⟨g5, 0, none⟩) g5 n2 n2 k1 (flatG ftc O) _ (unhide HFL2) hb2 (by omega) (by omega) rfl (unhide K100)).mono ?_
  rintro e WD ⟨he, hmw⟩
  obtain ⟨k2, hk2⟩ : ∃ k2 : Nat, (k2 : Int) = (k1 : Int) + 15 * (n2 : Int) := ⟨k1 + 15 * n2, by omega⟩
  obtain rfl : e = .returned (.int .i64 (k2 : Int)) := he.trans (ret_int hk2.symm)
  clear he
  obtain ⟨z1, z2⟩ := unhide HG4
  obtain ⟨z3, z4⟩ := unhide HG5
  obtain ⟨z8, z9⟩ := unhide HG5b
  have z5 := unhide HS4
  have z6 := unhide HS5
  have z7 := unhide HS3
  have z10 := unhide HS5b
  have K104 := hide ((unhide K98).trans (hmw.below (by omega) (unhide K98).size))
  have K105 := hide ((unhide K99).trans (hmw.below (by omega) (unhide K99).size))
  have ZWD := hide (Nat.le_trans (unhide ZA) hmw.size)
  have K106 := hide ((unhide K101).mw' hmw (by omega))
  have K107 := hide ((unhide K102).mw hmw (by omega))
  have K108 := hide ((unhide K103).mw hmw (by omega))
  clear hmw
  clear z1 z2 z3 z4 z5 z6 z7 z8 z9 z10
  have hk2b : k2 ≤ 31457281 := by omega
  have hk2c : 0 < k2 := by omega
  clear hk2 hk1b hk1c
  go_wp2_with fail
  refine (ft_mark (some ⟨g5b, 0, none⟩) g5b n3 n3 k2 (flatG ftc T) _ (unhide HFL3) hb3 (by omega) (by omega) rfl (unhide K106)).mono ?_
  rintro e WD2 ⟨he, hmw⟩
  obtain ⟨k3, hk3⟩ : ∃ k3 : Int, k3 = (k2 : Int) + 15 * (n3 : Int) := ⟨_, rfl⟩
  obtain rfl : e = .returned (.int .i64 k3) := he.trans (ret_int hk3.symm)
  clear he
  obtain ⟨z1, z2⟩ := unhide HG4
  obtain ⟨z3, z4⟩ := unhide HG5
  obtain ⟨z8, z9⟩ := unhide HG5b
  have z5 := unhide HS4
  have z6 := unhide HS5
  have z7 := unhide HS3
  have z10 := unhide HS5b
  have K109 := hide ((unhide K104).trans (hmw.below (by omega) (unhide K104).size))
  have K110 := hide ((unhide K105).trans (hmw.below (by omega) (unhide K105).size))
  have ZWD2 := hide (Nat.le_trans (unhide ZWD) hmw.size)
  have K111 := hide ((unhide K107).mw hmw (by omega))
  have K112 := hide ((unhide K108).mw hmw (by omega))
  clear hmw
  clear z1 z2 z3 z4 z5 z6 z7 z8 z9 z10
  have t2 : decide (k3 < 0) = false := decide_eq_false (by omega)
  have t3 : ¬ k3 < 0 := by omega
  clear hk3 hk2b hk2c
  obtain ⟨_, _, q6, e6, hq6⟩ := unhide HFM _ _ _ _ (unhide K111)
  injection e6 with e61 e62 e63
  subst e61
  have HQ6 := hide hq6
  clear hq6 e62 e63
  go_wp2_with fail
  refine (unhide HSB a6 aw _ _ k6 kw _ (unhide HQ6) (unhide HMB _ (unhide K110))).mono ?_
  rintro e WE ⟨rfl, hb⟩
  have ZE := hide (Nat.le_trans (unhide ZWD2) hb.size)
  have K113 := hide (bc (unhide K109) hb)
  have K114 := hide ((unhide K110).trans (hb.mono (unhide K110).size))
  have K115 := hide ((unhide K111).bel hb)
  have K116 := hide ((unhide K112).bel hb)
  clear hb HQ6
  go_wp2_with fail
  refine (unhide HSS b6 bw j6 jw _ (unhide HSM _ _ _ _ (unhide K116)) (unhide HMS _ (unhide K114))).mono ?_
  rintro e WEs ⟨rfl, hb⟩
  have ZEs := hide (Nat.le_trans (unhide ZE) hb.size)
  have K117 := hide (bc (unhide K113) hb)
  have K118 := hide ((unhide K114).trans (hb.mono (unhide K114).size))
  have K119 := hide ((unhide K115).bel hb)
  have K120 := hide ((unhide K116).bel hb)
  clear hb
  go_wp2_with fail
  refine (unhide HMK a6 k6 W5b.heap.size _ (unhide K119) (unhide ZEs)).mono ?_
  rintro e WF ⟨he, hrF, hmF⟩
  obtain ⟨mm, hmm⟩ : ∃ mm : Nat, (mm : Int) = ((1 : Nat) : Int) + 15 * (N : Int) := ⟨1 + 15 * N, by omega⟩
  obtain rfl : e = .returned (.int .i64 (mm : Int)) := he.trans (ret_int hmm.symm)
  have HMM := hide hmm
  have hmmb : mm ≤ 150001 := by omega
  have hmm0 : 0 < mm := by omega
  clear he hmm
  obtain ⟨z1, z2⟩ := unhide HG4
  obtain ⟨z3, z4⟩ := unhide HG5
  obtain ⟨z8, z9⟩ := unhide HG5b
  have z5 := unhide HS4
  have z6 := unhide HS5
  have z7 := unhide HS3
  have z10 := unhide HS5b
  have K121 := hide (Mw.bel' hmF (unhide K117) (by omega) (unhide K117).size)
  have K122 := hide (Mw.bel' hmF (unhide K118) (by omega) (unhide K118).size)
  have K123 := hide (FRow.other (n := N) (unhide K119) (unhide K120) ⟨hmF.1, fun h => (by obtain ⟨g, hg, _, hw⟩ := hmF.2 h; exact ⟨g, by rw [hg]; rfl, hw⟩)⟩)
  have HRF := hide hrF
  clear hmF hrF
  clear z1 z2 z3 z4 z5 z6 z7 z8 z9 z10
  go_wp2_with fail
  refine (unhide HMKS b6 j6 _ mm _ (unhide K123) (by omega) (by omega)).mono ?_
  rintro e WF2 ⟨he, hsF, hmF⟩
  obtain ⟨mt, hmt⟩ : ∃ mt : Int, mt = (mm : Int) + (M : Int) := ⟨_, rfl⟩
  obtain rfl : e = .returned (.int .i64 mt) := he.trans (ret_int hmt.symm)
  have HMTT := hide hmt
  have hmt0 : 0 ≤ mt := by omega
  clear he hmt
  obtain ⟨z1, z2⟩ := unhide HG4
  obtain ⟨z3, z4⟩ := unhide HG5
  obtain ⟨z8, z9⟩ := unhide HG5b
  have z5 := unhide HS4
  have z6 := unhide HS5
  have z7 := unhide HS3
  have z10 := unhide HS5b
  have K124 := hide (Mw.bel' hmF (unhide K121) (by omega) (unhide K121).size)
  have K125 := hide (Mw.bel' hmF (unhide K122) (by omega) (unhide K122).size)
  have HRF2 := hide (SRow.other (n := M) (unhide K123) (unhide HRF) ⟨hmF.1, fun h => (by obtain ⟨g, hg, _, hw⟩ := hmF.2 h; exact ⟨g, by rw [hg]; rfl, hw⟩)⟩)
  have HSF := hide hsF
  clear hmF hsF HRF
  clear z1 z2 z3 z4 z5 z6 z7 z8 z9 z10
  have mk1 : decide ((mm : Int) < 0) = false := decide_eq_false (by omega)
  have mk2 : ¬ ((mm : Int) < 0) := by omega
  have mk3 : decide (mt < 0) = false := decide_eq_false (by omega)
  have mk4 : ¬ (mt < 0) := by omega
  have mk5 : (mt != mt) = false := by simp
  obtain ⟨q6, hq6⟩ := unhide HMF _ _ _ _ (unhide HRF2)
  have HQ6 := hide hq6
  clear hq6
  go_wp2_with fail
  refine (ft_heldO a6 q6 0 N k6 1 _ (by omega) (by omega) (by omega) (unhide HQ6)).mono ?_
  rintro e WG ⟨he, hb⟩
  obtain rfl : e = .returned (.int .i64 (mm : Int)) := he.trans (ret_int (unhide HMM).symm)
  have K126 := hide (bc (unhide K124) hb)
  have K127 := hide ((unhide K125).trans (hb.mono (unhide K125).size))
  have HRF2WG := hide (own_bel (unhide HRF2) hb)
  have HSFWG := hide (own_bel (unhide HSF) hb)
  clear hb he HQ6
  go_wp2_with fail
  refine (st_held b6 M j6 mm _ (by omega) (by omega) (by omega) (unhide HMT _ _ _ _ _ (unhide HSFWG))).mono ?_
  rintro e WGs ⟨he, hb⟩
  obtain rfl : e = .returned (.int .i64 mt) := he.trans (ret_int (unhide HMTT).symm)
  have K128 := hide (bc (unhide K126) hb)
  have K129 := hide ((unhide K127).trans (hb.mono (unhide K127).size))
  have HRF2WGWGs := hide (own_bel (unhide HRF2WG) hb)
  have HSFWGWGs := hide (own_bel (unhide HSFWG) hb)
  clear hb he
  go_wp2_with fail
  refine (unhide HT1 _ (unhide K128)).mono ?_
  rintro e WH ⟨⟨gH, rfl, hgH, hk⟩, hb⟩
  have K130 := hide (bc (unhide K128) hb)
  have K131 := hide ((unhide K129).trans (hb.mono (unhide K129).size))
  have HRF2WGWGsWH := hide (own_bel (unhide HRF2WGWGs) hb)
  have HSFWGWGsWH := hide (own_bel (unhide HSFWGWGs) hb)
  have K132 := hide (hk)
  clear hb hk hgH
  go_wp2_with fail
  refine (unhide HT2 _ (unhide K130)).mono ?_
  rintro e WI ⟨⟨gI, rfl, hgI, hk⟩, hb⟩
  have K133 := hide (bc (unhide K130) hb)
  have K134 := hide ((unhide K131).trans (hb.mono (unhide K131).size))
  have K135 := hide ((unhide K132).bel hb)
  have HRF2WGWGsWHWI := hide (own_bel (unhide HRF2WGWGsWH) hb)
  have HSFWGWGsWHWI := hide (own_bel (unhide HSFWGWGsWH) hb)
  have K136 := hide (hk)
  clear hb hk hgI
  go_wp2_with fail
  refine (unhide HT3 _ (unhide K133)).mono ?_
  rintro e WJ ⟨⟨gJ, rfl, hgJ, hk⟩, hb⟩
  have K137 := hide (bc (unhide K133) hb)
  have K138 := hide ((unhide K134).trans (hb.mono (unhide K134).size))
  have K139 := hide ((unhide K135).bel hb)
  have K140 := hide ((unhide K136).bel hb)
  have HRF2WGWGsWHWIWJ := hide (own_bel (unhide HRF2WGWGsWHWI) hb)
  have HSFWGWGsWHWIWJ := hide (own_bel (unhide HSFWGWGsWHWI) hb)
  have K141 := hide (hk)
  clear hb hk hgJ
  go_wp2_with fail
  refine (unhide HPX _ _ _ _ (unhide K139) (unhide K140) (unhide K141)).mono ?_
  rintro e WK ⟨⟨aj, kj, bj, jj, rfl, hrj, hsj⟩, hb⟩
  have K142 := hide (bc (unhide K137) hb)
  have K143 := hide ((unhide K138).trans (hb.mono (unhide K138).size))
  have HRF2WGWGsWHWIWJWK := hide (own_bel (unhide HRF2WGWGsWHWIWJ) hb)
  have HSFWGWGsWHWIWJWK := hide (own_bel (unhide HSFWGWGsWHWIWJ) hb)
  have HSJ := hide hsj
  clear hb hsj
  obtain ⟨_, _, qj, ej, hqj⟩ := unhide HFM _ _ _ _ hrj
  injection ej with ej1 ej2 ej3
  subst ej1
  have HQJ := hide hqj
  clear hqj ej2 ej3 hrj
  go_wp2_with fail
  refine (unhide HSB aj aw _ _ kj kw _ (unhide HQJ) (unhide HMB _ (unhide K143))).mono ?_
  rintro e WL ⟨rfl, hb⟩
  have K144 := hide (bc (unhide K142) hb)
  have K145 := hide ((unhide K143).trans (hb.mono (unhide K143).size))
  have HRF2WGWGsWHWIWJWKWL := hide (own_bel (unhide HRF2WGWGsWHWIWJWK) hb)
  have HSFWGWGsWHWIWJWKWL := hide (own_bel (unhide HSFWGWGsWHWIWJWK) hb)
  have HSJ2 := hide ((unhide HSJ).bel hb)
  clear hb HQJ HSJ
  go_wp2_with fail
  refine (unhide HSS bj bw jj jw _ (unhide HSM _ _ _ _ (unhide HSJ2)) (unhide HMS _ (unhide K145))).mono ?_
  rintro e WLs ⟨rfl, hb⟩
  have K146 := hide (bc (unhide K144) hb)
  have K147 := hide ((unhide K145).trans (hb.mono (unhide K145).size))
  have HRF2WGWGsWHWIWJWKWLWLs := hide (own_bel (unhide HRF2WGWGsWHWIWJWKWL) hb)
  have HSFWGWGsWHWIWJWKWLWLs := hide (own_bel (unhide HSFWGWGsWHWIWJWKWL) hb)
  clear hb HSJ2
  obtain ⟨q6, hq6⟩ := unhide HMF _ _ _ _ (unhide HRF2WGWGsWHWIWJWKWLWLs)
  have HQ6 := hide hq6
  clear hq6
  go_wp2_with fail
  refine (ft_heldO a6 q6 0 N k6 1 _ (by omega) (by omega) (by omega) (unhide HQ6)).mono ?_
  rintro e WM ⟨he, hb⟩
  obtain rfl : e = .returned (.int .i64 (mm : Int)) := he.trans (ret_int (unhide HMM).symm)
  have K148 := hide (bc (unhide K146) hb)
  have K149 := hide ((unhide K147).trans (hb.mono (unhide K147).size))
  have HRF2WGWGsWHWIWJWKWLWLsWM := hide (own_bel (unhide HRF2WGWGsWHWIWJWKWLWLs) hb)
  have HSFWGWGsWHWIWJWKWLWLsWM := hide (own_bel (unhide HSFWGWGsWHWIWJWKWLWLs) hb)
  clear hb he HQ6
  go_wp2_with fail
  refine (st_held b6 M j6 mm _ (by omega) (by omega) (by omega) (unhide HMT _ _ _ _ _ (unhide HSFWGWGsWHWIWJWKWLWLsWM))).mono ?_
  rintro e WMs ⟨he, hb⟩
  obtain rfl : e = .returned (.int .i64 mt) := he.trans (ret_int (unhide HMTT).symm)
  have K150 := hide (bc (unhide K148) hb)
  have K151 := hide ((unhide K149).trans (hb.mono (unhide K149).size))
  have HRF2WGWGsWHWIWJWKWLWLsWMWMs := hide (own_bel (unhide HRF2WGWGsWHWIWJWKWLWLsWM) hb)
  have HSFWGWGsWHWIWJWKWLWLsWMWMs := hide (own_bel (unhide HSFWGWGsWHWIWJWKWLWLsWM) hb)
  clear hb he
  go_wp2_with fail
  go_ret
  exact ⟨rfl, (unhide K150)⟩
theorem fnExactMerge_own : ownKnob Try.prog.godebug = none := by kernel_rfl
theorem fnExactMerge_laidOut : laidOutB Try.prog = true := by kernel_rfl

set_option maxRecDepth 100000 in
theorem fnExactMerge_lifted (os : Os) (started : os.Started) (H : Type) (enc : TypeId × Value → H) :
    ReturnsInHanded {} Try.checked os 4 .any (Rows.fnExactMergeSpec.pre6 enc Try.prog Try.f4 Rows.fnExactMergeRow.domain false) (Rows.fnExactMergeSpec.post enc Try.prog Try.f4 false true false false) := by
  refine returnsInHanded_of_change (C := Try.checked) fnExactMerge_own started (by kernel_rfl) Try.func4
    (ChangeSpec.witness6 (enc := enc) (C := Try.checked) false ⟨#[], #[.slice none 0 0, .slice none 0 0, .slice none 0 0], []⟩ 8 (by kernel_rfl) (by kernel_rfl) (by kernel_rfl) (by kernel_rfl)) ?_
  intro W base args ds gs before hval0 hW hcnd _
  have hval : ∀ (j : Nat) t v, Try.f4.params[j]? = some t → args[j]? = some v → Value.okWide Try.prog W .any base t v := hval0
  have hW' := hW
  obtain ⟨p, q, hA0, hV, rfl, hfz, hnd⟩ := hW
  have hA : DataW.TrodAll enc Try.prog W 0 (fun _ => true) true Try.f4.params.toList args.toList ds p := hA0
  rw [Try.params4] at hA hval
  obtain ⟨v0, vs0, d0, ds0, p0, q0, hargs, rfl, rfl, h0, r0⟩ := trodAll_cons hA
  obtain ⟨v1, vs1, d1, ds1, p1, q1, rfl, rfl, rfl, h1, r1⟩ := trodAll_cons r0
  obtain ⟨v2, vs2, d2, ds2, p2, q2, rfl, rfl, rfl, h2, r2⟩ := trodAll_cons r1
  obtain ⟨rfl, rfl, rfl⟩ := trodAll_nil r2
  obtain rfl : args = #[v0, v1, v2] := by cases args; simp_all
  obtain ⟨rfl, rfl⟩ := trodVars_none hV
  obtain ⟨a0, len0, cap0, rfl⟩ := okWide_slice Try.underlying22 (hval 0 22 v0 rfl rfl)
  have k0 := h0
  have lt0 : ∀ x ∈ p0, x.block < W.heap.size := by obtain ⟨m, hm⟩ := k0; exact DataW.trod_lt m _ _ _ hm
  obtain ⟨pp0, po0, ms0, b0, l0, w0⟩ : ∃ (pp po : Nat) (J : List Ft), len0 ≤ 9223372036854775807 ∧ J.length = len0 ∧ (∀ f ∈ J, f.nm.size ≤ maxLen ∧ f.on.size ≤ maxLen ∧ f.ov.size ≤ maxLen) ∧ SlG ftc 15 W a0 pp po J := by
    obtain ⟨fuel, hf⟩ := h0
    obtain ⟨u, n, cap, pp, po, ms, hcs, hn, hl, hx⟩ := open_fts hf
    simp [Value.cells] at hcs
    obtain ⟨rfl, rfl, rfl⟩ := hcs
    exact ⟨pp, po, ms, hn, hl, hx⟩
  obtain ⟨a1, len1, cap1, rfl⟩ := okWide_slice Try.underlying22 (hval 1 22 v1 rfl rfl)
  have k1 := h1
  have lt1 : ∀ x ∈ p1, x.block < W.heap.size := by obtain ⟨m, hm⟩ := k1; exact DataW.trod_lt m _ _ _ hm
  obtain ⟨pp1, po1, ms1, b1, l1, w1⟩ : ∃ (pp po : Nat) (J : List Ft), len1 ≤ 9223372036854775807 ∧ J.length = len1 ∧ (∀ f ∈ J, f.nm.size ≤ maxLen ∧ f.on.size ≤ maxLen ∧ f.ov.size ≤ maxLen) ∧ SlG ftc 15 W a1 pp po J := by
    obtain ⟨fuel, hf⟩ := h1
    obtain ⟨u, n, cap, pp, po, ms, hcs, hn, hl, hx⟩ := open_fts hf
    simp [Value.cells] at hcs
    obtain ⟨rfl, rfl, rfl⟩ := hcs
    exact ⟨pp, po, ms, hn, hl, hx⟩
  obtain ⟨a2, len2, cap2, rfl⟩ := okWide_slice Try.underlying22 (hval 2 22 v2 rfl rfl)
  have k2 := h2
  have lt2 : ∀ x ∈ p2, x.block < W.heap.size := by obtain ⟨m, hm⟩ := k2; exact DataW.trod_lt m _ _ _ hm
  obtain ⟨pp2, po2, ms2, b2, l2, w2⟩ : ∃ (pp po : Nat) (J : List Ft), len2 ≤ 9223372036854775807 ∧ J.length = len2 ∧ (∀ f ∈ J, f.nm.size ≤ maxLen ∧ f.on.size ≤ maxLen ∧ f.ov.size ≤ maxLen) ∧ SlG ftc 15 W a2 pp po J := by
    obtain ⟨fuel, hf⟩ := h2
    obtain ⟨u, n, cap, pp, po, ms, hcs, hn, hl, hx⟩ := open_fts hf
    simp [Value.cells] at hcs
    obtain ⟨rfl, rfl, rfl⟩ := hcs
    exact ⟨pp, po, ms, hn, hl, hx⟩
  clear hA0 hval0
  refine (fnExactMerge_walk a0 len0 cap0 pp0 po0 ms0 a1 len1 cap1 pp1 po1 ms1 a2 len2 cap2 pp2 po2 ms2 W b0 l0 w0 b1 l1 w1 b2 l2 w2).mono fun e W' ⟨he, bel⟩ => ?_
  subst he
  exact ⟨_, rfl, _, _, _, [], _, [], hW', trodAll_mk1 (shut_bool Try.underlying4 _), (trodAll_cons_mk (Below.trod fnExactMerge_laidOut (by kernel_rfl) (of_decide_eq_true (by kernel_rfl)) k0 bel lt0) (trodAll_cons_mk (Below.trod fnExactMerge_laidOut (by kernel_rfl) (of_decide_eq_true (by kernel_rfl)) k1 bel lt1) (trodAll_cons_mk (Below.trod fnExactMerge_laidOut (by kernel_rfl) (of_decide_eq_true (by kernel_rfl)) k2 bel lt2) trodAll_mk0))), rfl, bel.frame _, fun h => by cases h⟩

theorem fnExactMerge_over : Rows.fnExactMergeRow.holds Try.pinned (OpenSpec.ofChange Rows.fnExactMergeSpec) :=
  OpenClaim.holds_of_wide 4 Try.f4 rfl rfl rfl rfl rfl rfl rfl ⟨rfl, rfl, rfl, rfl, rfl⟩ rfl rfl rfl rfl rfl (by kernel_rfl) Try.func4 (by kernel_rfl)
    (of_decide_eq_true (by kernel_rfl)) (by unfold Func.isWrapper; first | (rw [if_pos (by decide +kernel)]; kernel_rfl) | (rw [if_neg (by decide +kernel)]; exact ⟨rfl, rfl⟩))
    (fun os started H enc _ => fnExactMerge_lifted os started H enc)

/-- The statement, as it was given. -/
theorem fnExactMerge_holds : Rows.FnExactMergeSaid := fnExactMerge_over
#print axioms fnExactMerge_holds
end Go.Proofs.Ytkkmikgeppkhiaa
