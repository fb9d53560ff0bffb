/-
  The model's sorted points, each once.
-/
import Derived.Test.YtdcecfgmfmpeeaaHma
import Derived.Test.YtdcecfgmfmpeeaaOrder
import Derived.Deep.RegionLaw
namespace Go.Proofs.Ytdcecfgmfmpeeaa
open Go.ChangeShapes Go.WideShapes Go.ChangeAt Go.RowKit
set_option linter.unusedVariables false
set_option linter.unusedSimpArgs false

theorem Row.sm {w : World} {B t k n : Nat} {v : Value} {L : List Int} (h : Row w B t k v n L) (hv : v ≠ .slice none 0 0) : ∃ g cap, v = .slice (some ⟨g, 0, none⟩) n cap ∧ B ≤ g ∧ g < w.heap.size ∧ n ≤ cap ∧ cap ≤ maxLen := by
  rcases h.2 with ⟨h1, _⟩ | ⟨g, cap, cur, hv', hB, hh, hn, hx, hs, ht⟩
  · exact absurd h1 hv
  · exact ⟨g, cap, hv', hB, (Array.getElem?_eq_some_iff.1 hh).1, hn, hx⟩
theorem Row.ints {w : World} {B t k n g cap : Nat} {L : List Int} (h : Row w B t k (.slice (some ⟨g, 0, none⟩) n cap) n L) : IntsAt w g 0 L := by
  intro j x hj
  rcases h.2 with ⟨h1, _⟩ | ⟨g', cap', cur, hv', hB, hh, hn, hx, hs, ht⟩
  · cases h1
  · cases hv'
    have h1 : (cur.toList.take (n * k))[j]? = some (Value.int .i64 x) := by rw [ht, List.getElem?_map, hj]; rfl
    simp only [World.cell?]
    rw [hh]
    rw [List.getElem?_take] at h1
    split at h1
    · rw [Nat.zero_add]; simpa using h1
    · cases h1
/-- an append as a step of a drawn statement -/
theorem step_own {P : Program} {w : World} {ops : Array Oper} {o : Oper} {a : Act} {K : Act → World → Prop} {Q : Exit → Act → World → Prop} {E : Prop} (hgd : o.guard = none) (s x : Operand) (t : TypeId)
    (ho : o.op = .call { callee := .builtin .append, args := #[s, x], argTypes := #[t, t] })
    (base : Nat) (e : TypeId) (i : TypeInfo) (z : Value) (size bytes : Nat) (ht : P.underlying t = .some (.slice e)) (hi : P.info? e = .some i) (hz : i.zero = .some z)
    (hsize : i.size = size) (hby : i.bytes = bytes) (hzs : z.cells.size = size) (hsz : 0 < size)
    (v : Value) (n : Nat) (xs : List Value) (hs : a.eval s = v) (hown : w.ownsRow base e size v n xs)
    (ad : Addr) (m c : Nat) (news : List Value) (hx : a.eval x = .slice (.some ad) m c) (hl : news.length = m * size) (hnews : ∀ j u, news[j]? = .some u → w.cell? (ad.add j) = .some u) (h1 : ∀ u ∈ news, u.oneCell' = true)
    (h63 : n + m ≤ maxLen) (hbytes : (n + m) * bytes ≤ 140737488355328) (hbase : base ≤ w.heap.size)
    (h : ∀ v' w', w'.ownsRow base e size v' (n + m) (xs ++ news) → w.grownBy w' v.ownBlock → (v' = .slice none 0 0 ↔ v = .slice none 0 0 ∧ m = 0) → K (a.put o.dst v') w') :
    if Region.wanted o (yielded ops a.tmps) = true then Oper.wp P o a w K Q else E := by
  rw [if_pos (by unfold Region.wanted; rw [hgd])]
  exact wp_append_own w s x t ho base e i z size bytes ht hi hz hsize hby hzs hsz v n xs hs hown ad m c news hx hl hnews h1 h63 hbytes hbase h
theorem src_cells {w : World} {b : Nat} {L : List Int} (h : IntsAt w b 0 L) (M : List Int) (o : Nat) (hM : ∀ j x, M[j]? = .some x → L[o + j]? = .some x) : ∀ (j : Nat) (u : Value), (M.map (Value.int .i64))[j]? = .some u → w.cell? ((⟨b, o, none⟩ : Addr).add j) = .some u := by
  intro j u hj
  rw [List.getElem?_map] at hj
  obtain ⟨x, hx, rfl⟩ := Option.map_eq_some_iff.1 hj
  rw [add_none]
  have := h _ _ (hM j x hx)
  rwa [Nat.zero_add] at this
theorem drop_part (L : List Int) (k : Nat) : ∀ j x, (L.drop k)[j]? = .some x → L[k + j]? = .some x := by
  intro j x hj
  rw [List.getElem?_drop] at hj
  exact hj
theorem tail_ad2 (q ck k n : Nat) (L : List Int) (hl : L.length = n * 2) (hk : k ≤ n) (hc : n ≤ ck) : ∃ ad : Addr, (if ck = k then .some (⟨q, 0, none⟩ : Addr) else .some ⟨q, k * 2, none⟩) = (.some ad : Option Addr) ∧
    ∀ W, IntsAt W q 0 L → ∀ (j : Nat) (u : Value), ((L.drop (k * 2)).map (Value.int .i64))[j]? = .some u → W.cell? (ad.add j) = .some u := by
  by_cases h : ck = k
  · refine ⟨⟨q, 0, none⟩, if_pos h, fun W hW j u hj => ?_⟩
    rw [List.drop_eq_nil_of_le (by omega)] at hj
    cases hj
  · exact ⟨⟨q, k * 2, none⟩, if_neg h, fun W hW => src_cells hW _ (k * 2) (drop_part _ _)⟩
theorem own_first {B t k m : Nat} {wr W2 w1 : World} {g : Nat} {v' : Value} {news : List Int} (hbel : Below B wr W2) (hB : B ≤ W2.heap.size) (hg : B ≤ g)
    (hown' : w1.ownsRow B t k v' (0 + m) (([] : List Int).map (Value.int .i64) ++ news.map (Value.int .i64))) (hgrow : W2.grownBy w1 (Value.slice (.some ⟨g, 0, none⟩) 0 0).ownBlock) :
    Row w1 B t k v' m news ∧ Below B wr w1 :=
  ⟨by have := hown'; rw [Nat.zero_add] at this; exact this, hbel.grown hgrow hB (fun j hj => by cases hj; exact hg)⟩
theorem IntsAt.blk {w w' : World} {b : Nat} {L : List Int} (h : IntsAt w b 0 L) (e : w'.heap[b]? = w.heap[b]?) : IntsAt w' b 0 L := fun j x hj => (World.cell?_of_block (w := w) (a := ⟨b, 0 + j, none⟩) e).trans (h j x hj)
/-- how far the less ones reach -/
theorem less_step {A : List Pt} {p : Pt} {k : Nat} (hk : k ≤ lessN A p) : (k < lessN A p → ∃ q, A[k]? = .some q ∧ ltp q p = true) ∧ (¬ k < lessN A p → k = lessN A p ∧ (k = A.length ∨ ∃ q, A[k]? = .some q ∧ ltp q p = false)) ∧ lessN A p ≤ A.length := by
  have hle : lessN A p ≤ A.length := (List.takeWhile_sublist _).length_le
  refine ⟨fun h => ?_, fun h => ⟨by omega, ?_⟩, hle⟩
  · have h1 : k < (A.takeWhile fun a => ltp a p).length := h
    have h2 := List.getElem?_eq_getElem h1
    have h3 := List.mem_of_getElem? h2
    have h4 := List.all_eq_true.1 (List.all_takeWhile (p := fun a => ltp a p) (l := A)) _ h3
    have h5 : (A.takeWhile fun a => ltp a p)[k]? = A[k]? := by
      have := List.takeWhile_prefix (l := A) (fun a => ltp a p)
      obtain ⟨r, hr⟩ := this
      rw [← hr, List.getElem?_append_left h1]
      congr 1
      rw [hr]
    exact ⟨_, h5 ▸ h2, h4⟩
  · by_cases he : k = A.length
    · exact .inl he
    · right
      have hk2 : k < A.length := by omega
      refine ⟨_, List.getElem?_eq_getElem hk2, ?_⟩
      have ek : k = lessN A p := by omega
      have hd : A.dropWhile (fun a => ltp a p) ≠ [] := by
        intro e
        have := List.takeWhile_append_dropWhile (p := fun a => ltp a p) (l := A)
        rw [e, List.append_nil] at this
        have : A.length = lessN A p := by unfold lessN; rw [this]
        omega
      have h1 := List.head_dropWhile_not (fun a => ltp a p) hd
      have h2 : A[k] = (A.dropWhile fun a => ltp a p).head hd := by
        have e := List.takeWhile_append_dropWhile (p := fun a => ltp a p) (l := A)
        have : A[k]? = ((A.takeWhile fun a => ltp a p) ++ A.dropWhile fun a => ltp a p)[k]? := by rw [e]
        rw [List.getElem?_append_right (by show lessN A p ≤ k; omega)] at this
        rw [show k - (A.takeWhile fun a => ltp a p).length = 0 by show k - lessN A p = 0; omega] at this
        rw [List.getElem?_eq_getElem hk2, ← List.head?_eq_getElem?, List.head?_eq_some_head hd] at this
        exact Option.some.inj this
      rw [h2]
      simpa using h1
set_option maxHeartbeats 8000000 in
set_option maxRecDepth 100000 in
theorem sortM_any (b cap : Nat) (L : List Pt) (w : World) (hn : L.length ≤ 4096) (hb : b < w.heap.size) (hI : IntsAt w b 0 (flat2 L)) :
    Calls Try.prog 58 #[.slice (some ⟨b, 0, none⟩) L.length cap] w fun e w' => ∃ g c, e = .returned (.slice (some ⟨g, 0, none⟩) (srtU L).length c) ∧ Row w' w.heap.size 30 2 (.slice (some ⟨g, 0, none⟩) (srtU L).length c) (srtU L).length (flat2 (srtU L)) ∧ Below w.heap.size w w' := by
  obtain ⟨iP, hi1, hy0, hy1, hy2⟩ := info_parts info26
  have HI := hide hI
  clear hI
  go_enter Try.func58, Try.ntmps58
  go_wp2_with fail
  go_loopw [3, 4] (fun v s W => ∃ (i g c : Nat), s = .int .i64 (i : Int) ∧ i ≤ L.length ∧ v = .slice (some ⟨g, 0, none⟩) ((L.take i).foldl insU []).length c ∧ ((L.take i).foldl insU []).length ≤ i ∧ Row W w.heap.size 30 2 (.slice (some ⟨g, 0, none⟩) ((L.take i).foldl insU []).length c) ((L.take i).foldl insU []).length (flat2 ((L.take i).foldl insU [])) ∧ Below w.heap.size w W) (fun _ s _ => L.length - (intOf s).toNat)
  case atStart => exact ⟨0, _, _, rfl, by omega, rfl, Nat.le_refl _, row_made _ 30 _ 2 (by simp) _ (by simp), ba (Below.refl _ _) _⟩
  case round =>
    obtain ⟨i, g, c, rfl, hi, rfl, hle, hrow, hw⟩ := hrel
    have HRW := hide hrow
    have HW := hide hw
    have hszw := hw.size
    obtain ⟨_, _, hvg, hg1, hg2, hc1, hc2⟩ := hrow.sm (by simp)
    cases hvg
    clear hrow hw
    by_cases h : i < L.length
    · have iz : decide ((i : Int) < (L.length : Int)) = true := decide_eq_true (by omega)
      have i1 : (i : Int) < (L.length : Int) := by omega
      have i0 : (0 : Int) ≤ (i : Int) := by omega
      obtain ⟨p1, p2, hp⟩ : ∃ p1 p2 : Int, L[i]? = some (p1, p2) := ⟨_, _, List.getElem?_eq_getElem h⟩
      have HC : Hid (∀ W, Below w.heap.size w W → W.cell? ⟨b, i * 2, none⟩ = some (.int .i64 p1) ∧ W.cell? ⟨b, i * 2 + 1, none⟩ = some (.int .i64 p2)) := hide (fun W hW => by
        have hIw := (unhide HI).below hW hb
        have c0 := hIw _ _ (flat2_at hp).1
        have c1 := hIw _ _ (flat2_at hp).2
        rw [Nat.zero_add] at c0 c1
        exact ⟨c0, c1⟩)
      have HS : Hid ((L.take (i + 1)).foldl insU [] = insU ((L.take i).foldl insU []) (p1, p2)) := hide (by rw [List.take_add_one, hp, List.foldl_append]; rfl)
      have wi : IntKind.i64.wrap ((i : Int) + 1) = (i : Int) + 1 := wrap_i (by omega) (by omega)
      clear hp
      generalize (L.take i).foldl insU [] = A at *
      have HLS := hide (fun k (hk : k ≤ lessN A (p1, p2)) => less_step (p := (p1, p2)) hk)
      have HAT := hide (insU_at A (p1, p2))
      generalize hln : lessN A (p1, p2) = ln at *
      clear hln
      go_wp2_with fail
      go_loopw [5] (fun s W => ∃ k : Nat, s = .int .i64 (k : Int) ∧ k ≤ ln ∧ Below wr.heap.size wr W) (fun s _ => ln - (intOf s).toNat)
      case atStart => exact ⟨0, rfl, by omega, Below.refl _ _⟩
      case round =>
        obtain ⟨k, rfl, hk, hw2⟩ := hrel
        have HW2 := hide hw2
        have HWW : Hid (Below w.heap.size w wr) := hide (bc (unhide HW) hw2)
        have HR2 := hide ((unhide HRW).below hw2)
        have hsz2 := hw2.size
        obtain ⟨b0, b1⟩ := unhide HC _ (unhide HWW)
        have lb := cell_lt b0
        clear hw2
        obtain ⟨ls1, ls2, ls3⟩ := unhide HLS k hk
        have HIA := hide ((unhide HR2).ints)
        have k0 : (0 : Int) ≤ (k : Int) := by omega
        have wk : IntKind.i64.wrap ((k : Int) + 1) = (k : Int) + 1 := wrap_i (by omega) (by omega)
        have hlA := (unhide HR2).len
        by_cases hkl : k < ln
        · obtain ⟨⟨q1, q2⟩, hq, hqp⟩ := ls1 hkl
          have hkA : k < A.length := by omega
          have fq := flat2_at hq
          have qa0 := unhide HIA _ _ fq.1
          have qa1 := unhide HIA _ _ fq.2
          rw [Nat.zero_add] at qa0 qa1
          have d1 : decide ((k : Int) < (A.length : Int)) = true := decide_eq_true (by omega)
          have d2 : (k : Int) < (A.length : Int) := by omega
          have HLI := hide (fun W => less_ints q1 q2 p1 p2 W)
          rw [hqp] at HLI
          clear ls1 ls2 hq fq hqp
          go_wp2_with fail
          go_region_held3 (fun wx => wx.cell? ⟨g, k * 2, none⟩ = some (.int .i64 q1) ∧ wx.cell? ⟨g, k * 2 + 1, none⟩ = some (.int .i64 q2) ∧ wx.cell? ⟨b, i * 2, none⟩ = some (.int .i64 p1) ∧ wx.cell? ⟨b, i * 2 + 1, none⟩ = some (.int .i64 p2))
            (simp (maxDischargeDepth := 12) [go_sem, le1, lt1, *])
            (first
            | (go_at_call 75; refine (unhide HLI _).mono ?_; rintro e W4 ⟨rfl, hb4⟩; have HB4 : Hid (Below wr.heap.size wr W4) := hide (by first | exact hb4 | exact bc (Below.drew (Below.refl _ _)) hb4); have r0 := keep1 (unhide HB4) qa0; have r1 := keep1 (unhide HB4) qa1; have r4 := keep1 (unhide HB4) b0; have r5 := keep1 (unhide HB4) b1; clear hb4))
          go_wp2_with fail
          go_roundw
          case rel => first | exact ⟨k + 1, by simp, by omega, bc (unhide HW2) (unhide HB4)⟩ | ((repeat apply Exists.intro); refine ⟨?_, rfl⟩; exact ⟨k + 1, by simp, by omega, bc (unhide HW2) (unhide HB4)⟩)
          case measure => simp only [intOf]; omega
        · obtain ⟨hkn, hcase⟩ := ls2 hkl
          have HAT2 : Hid (insU A (p1, p2) = if A[k]? = some (p1, p2) then A else A.take k ++ (p1, p2) :: A.drop k) := hide (by rw [hkn]; exact unhide HAT)
          have HKN := hide hkn
          clear ls1 ls2 hkn
          -- behind the search: the place k, in a world V
          have REST : ∀ V : World, Below wr.heap.size wr V → True := fun _ _ => trivial
          rcases hcase with hkA | ⟨⟨q1, q2⟩, hq, hqp⟩
          · have d1 : decide ((k : Int) < (A.length : Int)) = false := decide_eq_false (by omega)
            have hnone : A[k]? = none := List.getElem?_eq_none (by omega)
            have d3 : ¬ (k : Int) < (A.length : Int) := by omega
            have d4 : ¬ k < A.length := by omega
            have HIN : Hid (insU A (p1, p2) = A.take k ++ (p1, p2) :: A.drop k) := hide (by rw [unhide HAT2, if_neg (by rw [hnone]; simp)])
            have HKA := hide hkA
            clear hnone hkA hlA
            go_wp2_with fail
            go_quiet (fail)
            revert nq
            intro n1
            go_wp2_with fail
            go_quiet (fail)
            have hkle : k ≤ A.length := by have := unhide HKA; omega
            rw [World.drewN_drewN]
            have HDN : Hid (Below wr.heap.size wr (wr.drewN (n1 + nq))) := hide ⟨rfl, rfl, rfl, Nat.le_refl _, fun _ _ => rfl⟩
            have HRV : Hid (Row (wr.drewN (n1 + nq)) w.heap.size 30 2 (.slice (some ⟨g, 0, none⟩) A.length c) A.length (flat2 A)) := hide ((unhide HR2).below (unhide HDN))
            have HWV : Hid (Below w.heap.size w (wr.drewN (n1 + nq))) := hide (bc (unhide HWW) (unhide HDN))
            have c0 : (wr.drewN (n1 + nq)).cell? ⟨b, i * 2, none⟩ = some (.int .i64 p1) := keep1 (unhide HDN) b0
            have c1 : (wr.drewN (n1 + nq)).cell? ⟨b, i * 2 + 1, none⟩ = some (.int .i64 p2) := keep1 (unhide HDN) b1
            have lv := cell_lt c0
            have hgV : g < (wr.drewN (n1 + nq)).heap.size := by have := hsz2; show g < wr.heap.size; omega
            have hszV : w.heap.size ≤ (wr.drewN (n1 + nq)).heap.size := (unhide HWV).size
            generalize wr.drewN (n1 + nq) = V at *
            clear b0 b1 lb
            have hlA : (flat2 A).length = A.length * 2 := flat2_len A
            obtain ⟨ad, had, hsrc⟩ := tail_ad2 g c k A.length (flat2 A) hlA hkle hc1
            have HSRC := hide hsrc
            have HLA := hide hlA
            have kk2 : (k : Int) ≤ (A.length : Int) := by omega
            have kk3 : (k : Int) ≤ (c : Int) := by omega
            have kk4 : (A.length : Int) ≤ (c : Int) := by omega
            clear hsrc hlA
            have HFF : Hid (flat2 (A.take k) = (flat2 A).take (k * 2) ∧ flat2 (A.drop k) = (flat2 A).drop (k * 2)) := hide ⟨(flat2_take A k).symm, (flat2_drop A k).symm⟩
            go_wp2_with (at_builtin; refine unhide ?_)
            refine hide ?_
            refine wpList_append_own _ rfl _ _ 23 rfl V.heap.size 30 iP _ 2 16 Try.underlying23 hi1 hy0 hy1 hy2 rfl (by decide) _ 0 (([] : List Int).map (Value.int .i64)) rfl (row_made _ 30 _ 2 (Nat.le_refl _) _ rfl) ad (A.length - k) (c - k) (((flat2 A).drop (k * 2)).map (Value.int .i64)) rfl (by rw [List.length_map, List.length_drop, unhide HLA]; omega) (unhide HSRC _ (fun j x hj => ka (((unhide HRV).ints) j x hj))) ints_one (by unfold maxLen; omega) (by omega) (by simp) ?_
            intro vr wz hown' hgrow hvn
            have R := own_first (wr := V) (news := (flat2 A).drop (k * 2)) (ba (Below.refl _ _) _) (by simp) (Nat.le_refl _) hown' hgrow
            obtain ⟨gr, cr, rfl, hgr1, hgr2, hcr1, hcr2⟩ := R.1.sm (fun e => by have := (hvn.1 e).1; cases this)
            have HRR := hide R.1
            have HBz := hide R.2
            have HRz := hide ((unhide HRV).below R.2)
            have z0 := keep1 R.2 c0
            have z1 := keep1 R.2 c1
            have lz := cell_lt z0
            have hgz : g < wz.heap.size := Nat.lt_of_lt_of_le hgV R.2.size
            have hszz := R.2.size
            have hgrg : gr ≠ g := by omega
            have HPO := hide ((unhide HRz).pop (m := k) hkle)
            have HIR := hide ((unhide HRR).ints)
            clear hown' hgrow hvn R c0 c1
            go_wp2_with fail
            go_region_law
              (first
              | (refine step_own (by rfl) (.tmp 53) (.tmp 58) _ (by rfl) w.heap.size 30 iP _ 2 16 Try.underlying23 hi1 hy0 hy1 hy2 rfl (by omega) (.slice (some ⟨g, 0, none⟩) k c) k (((flat2 A).take (k * 2)).map (Value.int .i64)) (by rfl) (by first | exact (unhide HPO).alloc _ | exact ((unhide HPO).alloc _).drew | exact ((unhide HPO).drew.alloc _))
                  ⟨_, 0, none⟩ 1 1 ([p1, p2].map (Value.int .i64)) (by rfl) (by rfl) (by first | exact news_cells _ _ rfl | exact news_cells _ _ (by simp) | exact news_drew _ _ (by simp)) ints_one (by unfold maxLen; omega) (by omega) (by simp; omega) ?_; intro v1 w1 hown' hgrow hvn1; have R1 := hide (own_more (wr := wz) (news := [p1, p2]) (by repeat (first | exact Below.refl _ _ | refine Below.alloc ?_ (by first | omega | (simp; omega)) _ | refine Below.drew ?_)) (by simp; omega) (unhide HPO) hown' hgrow); have HIR1 : Hid (IntsAt w1 gr 0 ((flat2 A).drop (k * 2))) := hide ((unhide HIR).blk ((hgrow.block gr (by simp; omega) (by simp [Value.ownBlock]; omega)).trans (by first | exact Below.heap_alloc _ _ _ (by simp; omega) | exact Below.heap_alloc _ _ _ (by omega)))); have hs1 := (unhide R1).2.size; have HN1 : Hid (v1 ≠ .slice none 0 0) := hide (fun e => by have := (hvn1.1 e).1; cases this); clear hown' hgrow hvn1)
              | (refine step_own (by rfl) (.tmp 59) (.tmp 60) _ (by rfl) w.heap.size 30 iP _ 2 16 Try.underlying23 hi1 hy0 hy1 hy2 rfl (by omega) v1 (k + 1) (((flat2 A).take (k * 2) ++ [p1, p2]).map (Value.int .i64)) (by rfl) (unhide R1).1
                  ⟨gr, 0, none⟩ (A.length - k) cr (((flat2 A).drop (k * 2)).map (Value.int .i64)) (by rfl) (by rw [List.length_map, List.length_drop, unhide HLA]; omega) (src_cells (unhide HIR1) _ 0 (fun j x h => by rw [Nat.zero_add]; exact h)) ints_one
                  (by unfold maxLen; omega) (by omega) (by omega) ?_; intro v2 w2 hown' hgrow hvn2; have R2 := hide (own_more (wr := w1) (L := (flat2 A).take (k * 2) ++ [p1, p2]) (news := (flat2 A).drop (k * 2)) (Below.refl _ _) (by omega) (unhide R1).1 hown' hgrow); have HN2 : Hid (v2 ≠ .slice none 0 0) := hide (fun e => unhide HN1 (hvn2.1 e).1); clear hown' hgrow hvn2))
            all_goals
              obtain ⟨g2, c2, rfl, hg21, hg22, hc21, hc22⟩ := (unhide R2).1.sm (unhide HN2)
              go_wp2_with fail
              go_roundw
              case rel =>
                have hlen : (insU A (p1, p2)).length = k + 1 + (A.length - k) := by rw [unhide HIN]; simp; omega
                have H : ∃ (i' g' c' : Nat), Value.int .i64 ((i : Int) + 1) = .int .i64 (i' : Int) ∧ i' ≤ L.length ∧ Value.slice (some ⟨g2, 0, none⟩) (k + 1 + (A.length - k)) c2 = .slice (some ⟨g', 0, none⟩) ((L.take i').foldl insU []).length c' ∧ ((L.take i').foldl insU []).length ≤ i' ∧ Row w2 w.heap.size 30 2 (.slice (some ⟨g', 0, none⟩) ((L.take i').foldl insU []).length c') ((L.take i').foldl insU []).length (flat2 ((L.take i').foldl insU [])) ∧ Below w.heap.size w w2 := by
                  refine ⟨i + 1, g2, c2, by simp, by omega, by rw [unhide HS, hlen], by rw [unhide HS, hlen]; omega, ?_, ?_⟩
                  · have hR := (unhide R2).1
                    rw [unhide HS, hlen, unhide HIN, flat2_app]
                    show Row w2 w.heap.size 30 2 _ _ (flat2 (A.take k) ++ (p1 :: p2 :: flat2 (A.drop k)))
                    rw [(unhide HFF).1, (unhide HFF).2]
                    simpa [List.append_assoc] using hR
                  · exact ((bc (unhide HWV) (unhide HBz)).trans (unhide R1).2).trans (unhide R2).2
                first | exact H | ((repeat apply Exists.intro); refine ⟨?_, rfl⟩; exact H)
              case measure => simp only [intOf]; omega
          · have hkA : k < A.length := by
              rcases Nat.lt_or_ge k A.length with h' | h'
              · exact h'
              · rw [List.getElem?_eq_none h'] at hq
                cases hq
            have fq := flat2_at hq
            have qa0 := unhide HIA _ _ fq.1
            have qa1 := unhide HIA _ _ fq.2
            rw [Nat.zero_add] at qa0 qa1
            have d1 : decide ((k : Int) < (A.length : Int)) = true := decide_eq_true (by omega)
            have d2 : (k : Int) < (A.length : Int) := by omega
            have HLI := hide (fun W => less_ints q1 q2 p1 p2 W)
            rw [hqp] at HLI
            have HQ := hide hq
            have hkle : k ≤ A.length := by omega
            clear hq fq hqp hlA
            go_wp2_with fail
            go_region_held3 (fun wx => wx.cell? ⟨g, k * 2, none⟩ = some (.int .i64 q1) ∧ wx.cell? ⟨g, k * 2 + 1, none⟩ = some (.int .i64 q2) ∧ wx.cell? ⟨b, i * 2, none⟩ = some (.int .i64 p1) ∧ wx.cell? ⟨b, i * 2 + 1, none⟩ = some (.int .i64 p2))
              (simp (maxDischargeDepth := 12) [go_sem, le1, lt1, *])
              (first
              | (go_at_call 75; refine (unhide HLI _).mono ?_; rintro e W4 ⟨rfl, hb4⟩; have HB4 : Hid (Below wr.heap.size wr W4) := hide (by first | exact hb4 | exact bc (Below.drew (Below.refl _ _)) hb4); have r0 := keep1 (unhide HB4) qa0; have r1 := keep1 (unhide HB4) qa1; have r4 := keep1 (unhide HB4) b0; have r5 := keep1 (unhide HB4) b1; clear hb4))
            by_cases e1 : q1 = p1
            · by_cases e2 : q2 = p2
              · subst e1 e2
                have HIN : Hid (insU A (q1, q2) = A) := hide (by rw [unhide HAT2, if_pos (unhide HQ)])
                go_wp2_with fail
                go_quiet (fail)
                go_wp2_with fail
                go_roundw
                case rel =>
                  have H : ∃ (i' g' c' : Nat), Value.int .i64 ((i : Int) + 1) = .int .i64 (i' : Int) ∧ i' ≤ L.length ∧ Value.slice (some ⟨g, 0, none⟩) A.length c = .slice (some ⟨g', 0, none⟩) ((L.take i').foldl insU []).length c' ∧ ((L.take i').foldl insU []).length ≤ i' ∧ Row (W4.drewN nq) w.heap.size 30 2 (.slice (some ⟨g', 0, none⟩) ((L.take i').foldl insU []).length c') ((L.take i').foldl insU []).length (flat2 ((L.take i').foldl insU [])) ∧ Below w.heap.size w (W4.drewN nq) := by
                    have HDN : Below wr.heap.size wr (W4.drewN nq) := bc (unhide HB4) ⟨rfl, rfl, rfl, Nat.le_refl _, fun _ _ => rfl⟩
                    refine ⟨i + 1, g, c, by simp, by omega, by rw [unhide HS, unhide HIN], by rw [unhide HS, unhide HIN]; omega, ?_, bc (unhide HWW) HDN⟩
                    rw [unhide HS, unhide HIN]
                    exact (unhide HR2).below HDN
                  first | exact H | ((repeat apply Exists.intro); refine ⟨?_, rfl⟩; exact H)
                case measure => simp only [intOf]; omega
              · have f1 : (q1 == p1) = true := by simp [e1]
                have f2 : (q2 == p2) = false := by simp [e2]
                have HNE : q1 = p1 → q2 = p2 → False := fun _ e => e2 e
                have HIN : Hid (insU A (p1, p2) = A.take k ++ (p1, p2) :: A.drop k) := hide (by rw [unhide HAT2, if_neg]; rw [unhide HQ]; intro e; have e9 := Option.some.inj e; exact HNE (congrArg Prod.fst e9) (congrArg Prod.snd e9))
                go_wp2_with fail
                go_quiet (fail)
                have HDN : Hid (Below wr.heap.size wr (W4.drewN nq)) := hide (bc (unhide HB4) ⟨rfl, rfl, rfl, Nat.le_refl _, fun _ _ => rfl⟩)
                have HRV : Hid (Row (W4.drewN nq) w.heap.size 30 2 (.slice (some ⟨g, 0, none⟩) A.length c) A.length (flat2 A)) := hide ((unhide HR2).below (unhide HDN))
                have HWV : Hid (Below w.heap.size w (W4.drewN nq)) := hide (bc (unhide HWW) (unhide HDN))
                have c0 : (W4.drewN nq).cell? ⟨b, i * 2, none⟩ = some (.int .i64 p1) := keep1 (unhide HDN) b0
                have c1 : (W4.drewN nq).cell? ⟨b, i * 2 + 1, none⟩ = some (.int .i64 p2) := keep1 (unhide HDN) b1
                have lv := cell_lt c0
                have hgV : g < (W4.drewN nq).heap.size := by have := (unhide HB4).size; show g < W4.heap.size; omega
                have hszV : w.heap.size ≤ (W4.drewN nq).heap.size := (unhide HWV).size
                generalize W4.drewN nq = V at *
                clear b0 b1 lb
                clear qa0 qa1 r0 r1 r4 r5
                have hlA : (flat2 A).length = A.length * 2 := flat2_len A
                have hsrc : ∀ W, IntsAt W g 0 (flat2 A) → ∀ (j : Nat) (u : Value), (((flat2 A).drop (k * 2)).map (Value.int .i64))[j]? = some u → W.cell? ((⟨g, k * 2, none⟩ : Addr).add j) = some u := fun W hW => src_cells hW _ (k * 2) (drop_part _ _)
                have HSRC := hide hsrc
                have HLA := hide hlA
                have kk2 : (k : Int) ≤ (A.length : Int) := by omega
                have kk3 : (k : Int) ≤ (c : Int) := by omega
                have kk4 : (A.length : Int) ≤ (c : Int) := by omega
                clear hsrc hlA
                have HFF : Hid (flat2 (A.take k) = (flat2 A).take (k * 2) ∧ flat2 (A.drop k) = (flat2 A).drop (k * 2)) := hide ⟨(flat2_take A k).symm, (flat2_drop A k).symm⟩
                go_wp2_with (at_builtin; refine unhide ?_)
                refine hide ?_
                refine wpList_append_own _ rfl _ _ 23 rfl V.heap.size 30 iP _ 2 16 Try.underlying23 hi1 hy0 hy1 hy2 rfl (by decide) _ 0 (([] : List Int).map (Value.int .i64)) rfl (row_made _ 30 _ 2 (Nat.le_refl _) _ rfl) ⟨g, k * 2, none⟩ (A.length - k) (c - k) (((flat2 A).drop (k * 2)).map (Value.int .i64)) rfl (by rw [List.length_map, List.length_drop, unhide HLA]; omega) (unhide HSRC _ (fun j x hj => ka (((unhide HRV).ints) j x hj))) ints_one (by unfold maxLen; omega) (by omega) (by simp) ?_
                intro vr wz hown' hgrow hvn
                have R := own_first (wr := V) (news := (flat2 A).drop (k * 2)) (ba (Below.refl _ _) _) (by simp) (Nat.le_refl _) hown' hgrow
                obtain ⟨gr, cr, rfl, hgr1, hgr2, hcr1, hcr2⟩ := R.1.sm (fun e => by have := (hvn.1 e).1; cases this)
                have HRR := hide R.1
                have HBz := hide R.2
                have HRz := hide ((unhide HRV).below R.2)
                have z0 := keep1 R.2 c0
                have z1 := keep1 R.2 c1
                have lz := cell_lt z0
                have hgz : g < wz.heap.size := Nat.lt_of_lt_of_le hgV R.2.size
                have hszz := R.2.size
                have hgrg : gr ≠ g := by omega
                have HPO := hide ((unhide HRz).pop (m := k) hkle)
                have HIR := hide ((unhide HRR).ints)
                clear hown' hgrow hvn R c0 c1
                go_wp2_with fail
                go_region_law
                  (first
                  | (refine step_own (by rfl) (.tmp 53) (.tmp 58) _ (by rfl) w.heap.size 30 iP _ 2 16 Try.underlying23 hi1 hy0 hy1 hy2 rfl (by omega) (.slice (some ⟨g, 0, none⟩) k c) k (((flat2 A).take (k * 2)).map (Value.int .i64)) (by rfl) (by first | exact (unhide HPO).alloc _ | exact ((unhide HPO).alloc _).drew | exact ((unhide HPO).drew.alloc _))
                      ⟨_, 0, none⟩ 1 1 ([p1, p2].map (Value.int .i64)) (by rfl) (by rfl) (by first | exact news_cells _ _ rfl | exact news_cells _ _ (by simp) | exact news_drew _ _ (by simp)) ints_one (by unfold maxLen; omega) (by omega) (by simp; omega) ?_; intro v1 w1 hown' hgrow hvn1; have R1 := hide (own_more (wr := wz) (news := [p1, p2]) (by repeat (first | exact Below.refl _ _ | refine Below.alloc ?_ (by first | omega | (simp; omega)) _ | refine Below.drew ?_)) (by simp; omega) (unhide HPO) hown' hgrow); have HIR1 : Hid (IntsAt w1 gr 0 ((flat2 A).drop (k * 2))) := hide ((unhide HIR).blk ((hgrow.block gr (by simp; omega) (by simp [Value.ownBlock]; omega)).trans (by first | exact Below.heap_alloc _ _ _ (by simp; omega) | exact Below.heap_alloc _ _ _ (by omega)))); have hs1 := (unhide R1).2.size; have HN1 : Hid (v1 ≠ .slice none 0 0) := hide (fun e => by have := (hvn1.1 e).1; cases this); clear hown' hgrow hvn1)
                  | (refine step_own (by rfl) (.tmp 59) (.tmp 60) _ (by rfl) w.heap.size 30 iP _ 2 16 Try.underlying23 hi1 hy0 hy1 hy2 rfl (by omega) v1 (k + 1) (((flat2 A).take (k * 2) ++ [p1, p2]).map (Value.int .i64)) (by rfl) (unhide R1).1
                      ⟨gr, 0, none⟩ (A.length - k) cr (((flat2 A).drop (k * 2)).map (Value.int .i64)) (by rfl) (by rw [List.length_map, List.length_drop, unhide HLA]; omega) (src_cells (unhide HIR1) _ 0 (fun j x h => by rw [Nat.zero_add]; exact h)) ints_one
                      (by unfold maxLen; omega) (by omega) (by omega) ?_; intro v2 w2 hown' hgrow hvn2; have R2 := hide (own_more (wr := w1) (L := (flat2 A).take (k * 2) ++ [p1, p2]) (news := (flat2 A).drop (k * 2)) (Below.refl _ _) (by omega) (unhide R1).1 hown' hgrow); have HN2 : Hid (v2 ≠ .slice none 0 0) := hide (fun e => unhide HN1 (hvn2.1 e).1); clear hown' hgrow hvn2))
                all_goals
                  obtain ⟨g2, c2, rfl, hg21, hg22, hc21, hc22⟩ := (unhide R2).1.sm (unhide HN2)
                  go_wp2_with fail
                  go_roundw
                  case rel =>
                    have hlen : (insU A (p1, p2)).length = k + 1 + (A.length - k) := by rw [unhide HIN]; simp; omega
                    have H : ∃ (i' g' c' : Nat), Value.int .i64 ((i : Int) + 1) = .int .i64 (i' : Int) ∧ i' ≤ L.length ∧ Value.slice (some ⟨g2, 0, none⟩) (k + 1 + (A.length - k)) c2 = .slice (some ⟨g', 0, none⟩) ((L.take i').foldl insU []).length c' ∧ ((L.take i').foldl insU []).length ≤ i' ∧ Row w2 w.heap.size 30 2 (.slice (some ⟨g', 0, none⟩) ((L.take i').foldl insU []).length c') ((L.take i').foldl insU []).length (flat2 ((L.take i').foldl insU [])) ∧ Below w.heap.size w w2 := by
                      refine ⟨i + 1, g2, c2, by simp, by omega, by rw [unhide HS, hlen], by rw [unhide HS, hlen]; omega, ?_, ?_⟩
                      · have hR := (unhide R2).1
                        rw [unhide HS, hlen, unhide HIN, flat2_app]
                        show Row w2 w.heap.size 30 2 _ _ (flat2 (A.take k) ++ (p1 :: p2 :: flat2 (A.drop k)))
                        rw [(unhide HFF).1, (unhide HFF).2]
                        simpa [List.append_assoc] using hR
                      · exact ((bc (unhide HWV) (unhide HBz)).trans (unhide R1).2).trans (unhide R2).2
                    first | exact H | ((repeat apply Exists.intro); refine ⟨?_, rfl⟩; exact H)
                  case measure => simp only [intOf]; omega
            · have f1 : (q1 == p1) = false := by simp [e1]
              have HNE : q1 = p1 → q2 = p2 → False := fun e _ => e1 e
              have HIN : Hid (insU A (p1, p2) = A.take k ++ (p1, p2) :: A.drop k) := hide (by rw [unhide HAT2, if_neg]; rw [unhide HQ]; intro e; have e9 := Option.some.inj e; exact HNE (congrArg Prod.fst e9) (congrArg Prod.snd e9))
              go_wp2_with fail
              go_quiet (fail)
              have HDN : Hid (Below wr.heap.size wr (W4.drewN nq)) := hide (bc (unhide HB4) ⟨rfl, rfl, rfl, Nat.le_refl _, fun _ _ => rfl⟩)
              have HRV : Hid (Row (W4.drewN nq) w.heap.size 30 2 (.slice (some ⟨g, 0, none⟩) A.length c) A.length (flat2 A)) := hide ((unhide HR2).below (unhide HDN))
              have HWV : Hid (Below w.heap.size w (W4.drewN nq)) := hide (bc (unhide HWW) (unhide HDN))
              have c0 : (W4.drewN nq).cell? ⟨b, i * 2, none⟩ = some (.int .i64 p1) := keep1 (unhide HDN) b0
              have c1 : (W4.drewN nq).cell? ⟨b, i * 2 + 1, none⟩ = some (.int .i64 p2) := keep1 (unhide HDN) b1
              have lv := cell_lt c0
              have hgV : g < (W4.drewN nq).heap.size := by have := (unhide HB4).size; show g < W4.heap.size; omega
              have hszV : w.heap.size ≤ (W4.drewN nq).heap.size := (unhide HWV).size
              generalize W4.drewN nq = V at *
              clear b0 b1 lb
              clear qa0 qa1 r0 r1 r4 r5
              have hlA : (flat2 A).length = A.length * 2 := flat2_len A
              have hsrc : ∀ W, IntsAt W g 0 (flat2 A) → ∀ (j : Nat) (u : Value), (((flat2 A).drop (k * 2)).map (Value.int .i64))[j]? = some u → W.cell? ((⟨g, k * 2, none⟩ : Addr).add j) = some u := fun W hW => src_cells hW _ (k * 2) (drop_part _ _)
              have HSRC := hide hsrc
              have HLA := hide hlA
              have kk2 : (k : Int) ≤ (A.length : Int) := by omega
              have kk3 : (k : Int) ≤ (c : Int) := by omega
              have kk4 : (A.length : Int) ≤ (c : Int) := by omega
              clear hsrc hlA
              have HFF : Hid (flat2 (A.take k) = (flat2 A).take (k * 2) ∧ flat2 (A.drop k) = (flat2 A).drop (k * 2)) := hide ⟨(flat2_take A k).symm, (flat2_drop A k).symm⟩
              go_wp2_with (at_builtin; refine unhide ?_)
              refine hide ?_
              refine wpList_append_own _ rfl _ _ 23 rfl V.heap.size 30 iP _ 2 16 Try.underlying23 hi1 hy0 hy1 hy2 rfl (by decide) _ 0 (([] : List Int).map (Value.int .i64)) rfl (row_made _ 30 _ 2 (Nat.le_refl _) _ rfl) ⟨g, k * 2, none⟩ (A.length - k) (c - k) (((flat2 A).drop (k * 2)).map (Value.int .i64)) rfl (by rw [List.length_map, List.length_drop, unhide HLA]; omega) (unhide HSRC _ (fun j x hj => ka (((unhide HRV).ints) j x hj))) ints_one (by unfold maxLen; omega) (by omega) (by simp) ?_
              intro vr wz hown' hgrow hvn
              have R := own_first (wr := V) (news := (flat2 A).drop (k * 2)) (ba (Below.refl _ _) _) (by simp) (Nat.le_refl _) hown' hgrow
              obtain ⟨gr, cr, rfl, hgr1, hgr2, hcr1, hcr2⟩ := R.1.sm (fun e => by have := (hvn.1 e).1; cases this)
              have HRR := hide R.1
              have HBz := hide R.2
              have HRz := hide ((unhide HRV).below R.2)
              have z0 := keep1 R.2 c0
              have z1 := keep1 R.2 c1
              have lz := cell_lt z0
              have hgz : g < wz.heap.size := Nat.lt_of_lt_of_le hgV R.2.size
              have hszz := R.2.size
              have hgrg : gr ≠ g := by omega
              have HPO := hide ((unhide HRz).pop (m := k) hkle)
              have HIR := hide ((unhide HRR).ints)
              clear hown' hgrow hvn R c0 c1
              go_wp2_with fail
              go_region_law
                (first
                | (refine step_own (by rfl) (.tmp 53) (.tmp 58) _ (by rfl) w.heap.size 30 iP _ 2 16 Try.underlying23 hi1 hy0 hy1 hy2 rfl (by omega) (.slice (some ⟨g, 0, none⟩) k c) k (((flat2 A).take (k * 2)).map (Value.int .i64)) (by rfl) (by first | exact (unhide HPO).alloc _ | exact ((unhide HPO).alloc _).drew | exact ((unhide HPO).drew.alloc _))
                    ⟨_, 0, none⟩ 1 1 ([p1, p2].map (Value.int .i64)) (by rfl) (by rfl) (by first | exact news_cells _ _ rfl | exact news_cells _ _ (by simp) | exact news_drew _ _ (by simp)) ints_one (by unfold maxLen; omega) (by omega) (by simp; omega) ?_; intro v1 w1 hown' hgrow hvn1; have R1 := hide (own_more (wr := wz) (news := [p1, p2]) (by repeat (first | exact Below.refl _ _ | refine Below.alloc ?_ (by first | omega | (simp; omega)) _ | refine Below.drew ?_)) (by simp; omega) (unhide HPO) hown' hgrow); have HIR1 : Hid (IntsAt w1 gr 0 ((flat2 A).drop (k * 2))) := hide ((unhide HIR).blk ((hgrow.block gr (by simp; omega) (by simp [Value.ownBlock]; omega)).trans (by first | exact Below.heap_alloc _ _ _ (by simp; omega) | exact Below.heap_alloc _ _ _ (by omega)))); have hs1 := (unhide R1).2.size; have HN1 : Hid (v1 ≠ .slice none 0 0) := hide (fun e => by have := (hvn1.1 e).1; cases this); clear hown' hgrow hvn1)
                | (refine step_own (by rfl) (.tmp 59) (.tmp 60) _ (by rfl) w.heap.size 30 iP _ 2 16 Try.underlying23 hi1 hy0 hy1 hy2 rfl (by omega) v1 (k + 1) (((flat2 A).take (k * 2) ++ [p1, p2]).map (Value.int .i64)) (by rfl) (unhide R1).1
                    ⟨gr, 0, none⟩ (A.length - k) cr (((flat2 A).drop (k * 2)).map (Value.int .i64)) (by rfl) (by rw [List.length_map, List.length_drop, unhide HLA]; omega) (src_cells (unhide HIR1) _ 0 (fun j x h => by rw [Nat.zero_add]; exact h)) ints_one
                    (by unfold maxLen; omega) (by omega) (by omega) ?_; intro v2 w2 hown' hgrow hvn2; have R2 := hide (own_more (wr := w1) (L := (flat2 A).take (k * 2) ++ [p1, p2]) (news := (flat2 A).drop (k * 2)) (Below.refl _ _) (by omega) (unhide R1).1 hown' hgrow); have HN2 : Hid (v2 ≠ .slice none 0 0) := hide (fun e => unhide HN1 (hvn2.1 e).1); clear hown' hgrow hvn2))
              all_goals
                obtain ⟨g2, c2, rfl, hg21, hg22, hc21, hc22⟩ := (unhide R2).1.sm (unhide HN2)
                go_wp2_with fail
                go_roundw
                case rel =>
                  have hlen : (insU A (p1, p2)).length = k + 1 + (A.length - k) := by rw [unhide HIN]; simp; omega
                  have H : ∃ (i' g' c' : Nat), Value.int .i64 ((i : Int) + 1) = .int .i64 (i' : Int) ∧ i' ≤ L.length ∧ Value.slice (some ⟨g2, 0, none⟩) (k + 1 + (A.length - k)) c2 = .slice (some ⟨g', 0, none⟩) ((L.take i').foldl insU []).length c' ∧ ((L.take i').foldl insU []).length ≤ i' ∧ Row w2 w.heap.size 30 2 (.slice (some ⟨g', 0, none⟩) ((L.take i').foldl insU []).length c') ((L.take i').foldl insU []).length (flat2 ((L.take i').foldl insU [])) ∧ Below w.heap.size w w2 := by
                    refine ⟨i + 1, g2, c2, by simp, by omega, by rw [unhide HS, hlen], by rw [unhide HS, hlen]; omega, ?_, ?_⟩
                    · have hR := (unhide R2).1
                      rw [unhide HS, hlen, unhide HIN, flat2_app]
                      show Row w2 w.heap.size 30 2 _ _ (flat2 (A.take k) ++ (p1 :: p2 :: flat2 (A.drop k)))
                      rw [(unhide HFF).1, (unhide HFF).2]
                      simpa [List.append_assoc] using hR
                    · exact ((bc (unhide HWV) (unhide HBz)).trans (unhide R1).2).trans (unhide R2).2
                  first | exact H | ((repeat apply Exists.intro); refine ⟨?_, rfl⟩; exact H)
                case measure => simp only [intOf]; omega
    · have iz : decide ((i : Int) < (L.length : Int)) = false := decide_eq_false (by omega)
      have en : i = L.length := by omega
      subst en
      go_wp2_with fail
      go_ret
      exact ⟨g, c, by unfold srtU; rw [List.take_length]; rfl, by have := unhide HRW; rw [List.take_length] at this; exact this, unhide HW⟩
end Go.Proofs.Ytdcecfgmfmpeeaa
