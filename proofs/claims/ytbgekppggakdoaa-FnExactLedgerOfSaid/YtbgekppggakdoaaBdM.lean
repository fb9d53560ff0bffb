/-
  The model's bound.
-/
import Derived.Test.YtbgekppggakdoaaBdMath
import Derived.Test.YtbgekppggakdoaaPnC
namespace Go.Proofs.Ytbgekppggakdoaa
open Go.ChangeShapes Go.WideShapes Go.ChangeAt Go.RowKit
set_option linter.unusedVariables false
set_option linter.unusedSimpArgs false

theorem bool_info : (Try.prog.info? 4).map (fun i => (i.zero, i.size, i.bytes)) = some (some (.bool false), 1, 1) := by kernel_rfl
theorem int_info : (Try.prog.info? 3).map (fun i => (i.zero, i.size, i.bytes)) = some (some (.int .i64 0), 1, 8) := by kernel_rfl
theorem flat_bool (l : List Bool) : flatG (fun b : Bool => [Value.bool b]) l = l.map Value.bool := by
  induction l with
  | nil => rfl
  | cons b l ih => simp [flatG, ih]
theorem tab_const {α : Type} (n : Nat) (x : α) : tab n (fun _ => x) = List.replicate n x := by simp [tab, List.map_const']
theorem make_bools (n : Nat) (hn : n ≤ 1048576) (W : World) :
    (Instr.makeSlice 92 (.int .i64 (n : Int)) (.int .i64 (n : Int))).run Try.prog W = .ok (.slice (some ⟨W.heap.size, 0, none⟩) n n) (W.alloc (.cells ((tab n (fun _ => false)).map Value.bool).toArray 4)) := by
  obtain ⟨i, hx, h0, h1, h2⟩ := info_parts bool_info
  have := run_make (P := Try.prog) W 92 4 i _ Try.underlying92 hx h0 .i64 .i64 n n (by omega) (by omega) (by rw [h2]; omega) (by omega)
  rw [Int.toNat_natCast, h1, made_flat (k := 1) (c := fun b : Bool => [Value.bool b]) (by decide) (fun _ => rfl) false _ rfl, flat_bool, ← tab_const] at this
  exact this
theorem make_loads (n : Nat) (hn : n ≤ 1048576) (W : World) :
    (Instr.makeSlice 41 (.int .i64 (n : Int)) (.int .i64 (n : Int))).run Try.prog W = .ok (.slice (some ⟨W.heap.size, 0, none⟩) n n) (W.alloc (.cells ((tab n (fun _ => (0 : Int))).map (Value.int .i64)).toArray 3)) := by
  have := make_ints (P := Try.prog) 41 3 1 8 n Try.underlying41 (.int .i64 0) rfl (by omega) int_info (by omega) (by omega) W
  rw [Nat.mul_one] at this
  rw [tab_const]
  exact this
theorem bst_true {S : Int} {b : Bs} {mm ll : Nat} {st se : Int} (h : b.g (10 * mm + ll) = true) : bst S b ⟨mm, st, ll, se⟩ = ⟨upd b.f mm (b.f mm + st), b.g⟩ := by
  simp only [bst, kAt, Int.toNat_natCast, h, if_true, Int.add_zero, Bs.mk.injEq, true_and]
  rw [← h, upd_self]
theorem bst_false {S : Int} {b : Bs} {mm ll : Nat} {st se : Int} (h : b.g (10 * mm + ll) = false) : bst S b ⟨mm, st, ll, se⟩ = ⟨upd (upd b.f mm (b.f mm + st)) mm (b.f mm + st + S), upd b.g (10 * mm + ll) true⟩ := by
  simp only [bst, kAt, Int.toNat_natCast, h, upd_upd]
  rfl
/-- loads, used tools and the shop in memory -/
structure Mb (W : World) (B gl gu m : Nat) (S L : Int) (b : Bs) : Prop where
  ld : iblk W gl 3 (tab m b.f)
  us : vb W gu 4 ((tab (10 * m) b.g).map Value.bool)
  sh : vb W B 27 [.int .i64 (m : Int), .int .i64 S, .int .i64 L]
theorem Mb.bel {W W' : World} {B gl gu m : Nat} {S L : Int} {b : Bs} (h : Mb W B gl gu m S L b) (hb : Below W.heap.size W W') : Mb W' B gl gu m S L b := ⟨h.ld.bel hb, h.us.bel hb, h.sh.bel hb⟩
theorem Mb.drew {W : World} {B gl gu m : Nat} {S L : Int} {b : Bs} (h : Mb W B gl gu m S L b) (q : Nat) : Mb (W.drewN q) B gl gu m S L b := ⟨h.ld, h.us, h.sh⟩
theorem Mb.load {W : World} {B gl gu m : Nat} {S L : Int} {b : Bs} (h : Mb W B gl gu m S L b) (h1 : gl ≠ gu) (h2 : gl ≠ B) (k : Nat) (x : Int) : Mb (W.setCell ⟨gl, k, none⟩ (.int .i64 x)) B gl gu m S L ⟨upd b.f k x, b.g⟩ := by
  refine ⟨?_, h.us.ne (fun e => h1 e.symm), h.sh.ne (fun e => h2 e.symm)⟩
  rw [← tab_set]
  exact h.ld.set k x
theorem Mb.use {W : World} {B gl gu m : Nat} {S L : Int} {b : Bs} (h : Mb W B gl gu m S L b) (h1 : gl ≠ gu) (h2 : gu ≠ B) (k : Nat) : Mb (W.setCell ⟨gu, k, none⟩ (.bool true)) B gl gu m S L ⟨b.f, upd b.g k true⟩ := by
  refine ⟨h.ld.ne h1, ?_, h.sh.ne (fun e => h2 e.symm)⟩
  rw [← tab_set, List.map_set]
  exact h.us.set k (.bool true)
set_option maxRecDepth 100000 in
set_option maxHeartbeats 16000000 in
theorem bdM_any (N S L : Int) (u : Option Addr) (p po n c : Nat) (J : List Jb) (w : World) (hl : J.length = n) (hn : n ≤ 9223372036854775807) (hu : Jbs w u p po J) :
    Calls Try.prog 25 #[.agg #[.int .i64 N, .int .i64 S, .int .i64 L], .slice u n c] w fun e w' => e = .returned (.tuple #[.int .i64 (bdV N S L J), .int .i64 (bdC N S L J)]) ∧ Below w.heap.size w w' := by
  have HB0 := hide (ba (Below.refl w.heap.size w) (.cells #[.int .i64 N, .int .i64 S, .int .i64 L] 27))
  have HV := hide (vb_new w 27 [.int .i64 N, .int .i64 S, .int .i64 L] w.heap.size rfl)
  have HU := hide (fun X (hX : Below w.heap.size w X) => hu.bel hX)
  have HC := hide (fun X (hX : Below w.heap.size w X) => shM_any N S L u p po n c J X hl hn (hu.bel hX))
  have n0 : (0 : Int) ≤ (n : Int) := Int.natCast_nonneg _
  by_cases h1 : 4096 < n
  · have t1 : decide ((4096 : Int) < (n : Int)) = true := decide_eq_true (by omega)
    have e1 : bdV N S L J = 0 := by unfold bdV; rw [if_pos (by omega)]
    have e2 : bdC N S L J = 2 := by unfold bdC; rw [if_pos (by omega)]
    rw [e1, e2]
    clear hu hl e1 e2
    go_enter Try.func25, Try.ntmps25
    go_wp2_with fail
    exact bodyPost_ret (v := .tuple #[.int .i64 0, .int .i64 2]) (by simp [results, Try.results25, go_sem]) rfl ⟨rfl, unhide HB0⟩
  have t1 : decide ((4096 : Int) < (n : Int)) = false := decide_eq_false (by omega)
  cases hsh : shOk N S L J with
  | false =>
    have e1 : bdV N S L J = 0 := by unfold bdV; rw [if_neg (by omega), hsh, if_neg (by simp)]
    have e2 : bdC N S L J = 1 := by unfold bdC; rw [if_neg (by omega), hsh, if_neg (by simp)]
    rw [e1, e2]
    rw [hsh] at HC
    clear hu hl e1 e2 hsh
    go_enter Try.func25, Try.ntmps25
    go_wp2_with fail
    refine (unhide HC _ (unhide HB0)).mono ?_
    rintro e W1 ⟨rfl, hb⟩
    have HB1 := hide (bc (unhide HB0) hb)
    clear hb
    go_wp2_with fail
    exact bodyPost_ret (v := .tuple #[.int .i64 0, .int .i64 1]) (by simp [results, Try.results25, go_sem]) rfl ⟨rfl, unhide HB1⟩
  | true =>
  rw [hsh] at HC
  obtain ⟨⟨N1, N2⟩, ⟨S1, S2⟩, ⟨L1, L2⟩, hJ20, hJok, hnd⟩ := shOk_iff.1 hsh
  have e1 : bdV N S L J = top (bsj J) (bal S J).f N.toNat := by unfold bdV; rw [if_neg (by omega), if_pos hsh]
  have e2 : bdC N S L J = 0 := by unfold bdC; rw [if_neg (by omega), if_pos hsh]
  rw [e1, e2]
  obtain ⟨m, rfl⟩ := Int.eq_ofNat_of_zero_le (show 0 ≤ N by omega)
  simp only [Int.toNat_natCast]
  have HL := hide hl
  have HJ := hide hJok
  clear hu hl e1 e2 hsh hnd hJok
  have m0 : (0 : Int) ≤ (m : Int) := Int.natCast_nonneg _
  have hmk1 := fun W => make_loads m (by omega) W
  have hmk2 := fun W => make_bools (10 * m) (by omega) W
  rw [show ((10 * m : Nat) : Int) = 10 * (m : Int) by omega] at hmk2
  have wm : IntKind.i64.wrap (10 * (m : Int)) = 10 * (m : Int) := wrap_i (by omega) (by omega)
  go_enter Try.func25, Try.ntmps25
  go_wp2_with fail
  refine (unhide HC _ (unhide HB0)).mono ?_
  rintro e W1 ⟨rfl, hb⟩
  have v1 := (unhide HV).bel hb
  have k0 := v1.cell (m := 0) rfl
  have k1 := v1.cell (m := 1) rfl
  have k2 := v1.cell (m := 2) rfl
  have vl := v1.lt
  have HV1 := hide v1
  have HB1 := hide (bc (unhide HB0) hb)
  clear hb v1
  go_wp2_with fail
  have HM0 : Hid (Mb ((W1.alloc (.cells ((tab m (fun _ => (0 : Int))).map (Value.int .i64)).toArray 3)).alloc (.cells ((tab (10 * m) (fun _ => false)).map Value.bool).toArray 4)) w.heap.size W1.heap.size (W1.heap.size + 1) m S L ⟨fun _ => 0, fun _ => false⟩) := hide ⟨(iblk_new W1 3 _).bel (ba (Below.refl _ _) _), vb_new _ 4 _ _ (by simp), ((unhide HV1).bel (ba (Below.refl _ _) _)).bel (ba (Below.refl _ _) _)⟩
  have HB2 := hide (ba (ba (unhide HB1) (.cells ((tab m (fun _ => (0 : Int))).map (Value.int .i64)).toArray 3)) (.cells ((tab (10 * m) (fun _ => false)).map Value.bool).toArray 4))
  have HG : Hid (w.heap.size < W1.heap.size) := hide vl
  clear hmk1 hmk2 k0 k1 k2 HV HV1 HC HB0 HB1
  generalize hgl : W1.heap.size = gl at *
  generalize (W1.alloc (.cells ((tab m (fun _ => (0 : Int))).map (Value.int .i64)).toArray 3)).alloc (.cells ((tab (10 * m) (fun _ => false)).map Value.bool).toArray 4) = W2 at *
  clear hgl
  go_loopw [6, 9, 10, 11, 12] (fun b s _ _ _ W => ∃ i : Nat, b = .int .i64 (bsj (J.take i)) ∧ s = .int .i64 (i : Int) ∧ i ≤ n ∧ Mb W w.heap.size gl (gl + 1) m S L (bal S (J.take i)) ∧ Below w.heap.size w W) (fun _ s _ _ _ _ => n - (intOf s).toNat)
  case atStart => exact ⟨0, rfl, rfl, Nat.zero_le _, unhide HM0, unhide HB2⟩
  case round =>
    obtain ⟨i, rfl, rfl, hi, hm, hb⟩ := hrel
    have HM := hide hm
    have HB := hide hb
    have HBS := hide (bsj_bd (unhide HJ) i (by rw [unhide HL]; exact hi))
    have HBK := hide (Bk.jobs (S := S) ⟨S1, S2⟩ (unhide HJ) i (by rw [unhide HL]; exact hi))
    clear hm
    have i0 : (0 : Int) ≤ (i : Int) := Int.natCast_nonneg _
    by_cases h : i < n
    rotate_left
    · have iz : decide ((i : Int) < (n : Int)) = false := decide_eq_false (by omega)
      have iq : ¬ ((i : Int) < (n : Int)) := by omega
      have HTJ : Hid (J.take i = J) := hide (List.take_of_length_le (by rw [unhide HL]; omega))
      rw [unhide HTJ] at HM HBS HBK ⊢
      clear hb
      go_wp2_with fail
      go_loopw [6, 13] (fun b s W => ∃ k : Nat, b = .int .i64 (top (bsj J) (bal S J).f k) ∧ s = .int .i64 (k : Int) ∧ k ≤ m ∧ W = wr) (fun _ s _ => m - (intOf s).toNat)
      case atStart => exact ⟨0, rfl, rfl, Nat.zero_le _, rfl⟩
      case round =>
        obtain ⟨k, rfl, rfl, hk, rfl⟩ := hrel
        have hm := unhide HM
        have k0 : (0 : Int) ≤ (k : Int) := Int.natCast_nonneg _
        have y0 := hm.sh.cell (m := 0) rfl
        by_cases hkm : k < m
        · have kz : decide ((k : Int) < (m : Int)) = true := decide_eq_true (by omega)
          have k1 : (k : Int) < (m : Int) := by omega
          have x0 := hm.ld.cell (tab_at (bal S J).f hkm)
          have HT := hide (top_succ (bsj J) (bal S J).f k)
          clear hm
          go_wp2_with fail
          go_roundw
          case rel => exact ⟨k + 1, by rw [unhide HT], by simp, hkm, by first | rfl | trivial⟩
          case measure => first | (simp only [intOf]; omega) | (simp [intOf]; omega)
        · have kz : decide ((k : Int) < (m : Int)) = false := decide_eq_false (by omega)
          have kq : ¬ ((k : Int) < (m : Int)) := by omega
          have hke : m = k := by omega
          subst hke
          clear hm
          go_wp2_with fail
          exact bodyPost_ret (v := .tuple #[.int .i64 (top (bsj J) (bal S J).f m), .int .i64 0]) (by simp [results, Try.results25, go_sem]) rfl ⟨rfl, unhide HB⟩
    have i1 : (i : Int) < (n : Int) := by omega
    have iz : decide ((i : Int) < (n : Int)) = true := decide_eq_true i1
    obtain ⟨j, hx⟩ := get_some (unhide HL) h
    have hjo := (unhide HU _ hb).each j (List.mem_of_getElem? hx)
    have hjk := unhide HJ j (List.mem_of_getElem? hx)
    have HJK := hide hjk
    have hsn : j.st.length = j.sn := hjo.len
    have HSN := hide hsn
    have h8 := jbOk_len hjk
    rw [hsn] at h8
    have s0 : (0 : Int) ≤ (j.sn : Int) := Int.natCast_nonneg _
    obtain ⟨rfl, pw0, _⟩ := (unhide HU _ hb).at hx
    have HX := hide hx
    clear hx hb hjo hjk hsn pw0
    go_wp2_with fail
    go_loopw [10, 11, 12] (fun z s _ W => ∃ k : Nat, z = .int .i64 (tsm (j.st.take k)) ∧ s = .int .i64 (k : Int) ∧ k ≤ j.sn ∧ Mb W w.heap.size gl (gl + 1) m S L (bjb S (bal S (J.take i)) (j.st.take k)) ∧ Below w.heap.size w W) (fun _ s _ _ => j.sn - (intOf s).toNat)
    case atStart => exact ⟨0, rfl, rfl, Nat.zero_le _, unhide HM, unhide HB⟩
    case round =>
      obtain ⟨k, rfl, rfl, hk, hm, hb⟩ := hrel
      have HM2 := hide hm
      have HB2 := hide hb
      have k0 : (0 : Int) ≤ (k : Int) := Int.natCast_nonneg _
      obtain ⟨_, pw, _, _, l2⟩ := (unhide HU _ hb).at (unhide HX)
      by_cases hks : k < j.sn
      rotate_left
      · have kz : decide ((k : Int) < (j.sn : Int)) = false := decide_eq_false (by omega)
        have kq : ¬ ((k : Int) < (j.sn : Int)) := by omega
        have hke : k = j.sn := by omega
        have HTK : Hid (j.st.take k = j.st) := hide (List.take_of_length_le (by rw [unhide HSN]; omega))
        clear hke hb
        go_wp2_with fail
        go_roundw
        case rel =>
          refine ⟨i + 1, by rw [bsj_take (unhide HX), unhide HTK], by simp, h, ?_, unhide HB2⟩
          rw [bal_take S (unhide HX)]
          have := unhide HM2
          rwa [unhide HTK] at this
        case measure => first | (simp only [intOf]; omega) | (simp [intOf]; omega)
      have k1 : (k : Int) < (j.sn : Int) := by omega
      have kz : decide ((k : Int) < (j.sn : Int)) = true := decide_eq_true k1
      obtain ⟨s, hxs⟩ := get_some (unhide HSN) hks
      have hjo := (unhide HU _ hb).each j (List.mem_of_getElem? (unhide HX))
      obtain ⟨hsu, pw3, q0, q1, q2, q3⟩ := hjo.at hxs
      obtain ⟨a1, a2, a3, a4, a5, a6, a7, a8⟩ := jbOk_st (unhide HJK) (List.mem_of_getElem? hxs)
      obtain ⟨b1, b2⟩ := tsm_bd (unhide HJK) k (by rw [unhide HSN]; omega)
      have hbk := (Bk.run (T := j.st) ⟨S1, S2⟩ (fun s hs => jbOk_st (unhide HJK) hs) (unhide HBK) k (by rw [unhide HSN]; omega))
      have HXS := hide hxs
      clear hjo hxs
      rw [hsu] at l2
      generalize hbb : bjb S (bal S (J.take i)) (j.st.take k) = bb at *
      have HBB := hide hbb
      clear hbb
      obtain ⟨sm, st, sl, se⟩ := s
      simp only [] at a1 a2 a3 a4 a5 a6 a7 a8 q0 q1 q2 q3
      obtain ⟨mm, rfl⟩ := Int.eq_ofNat_of_zero_le a1
      obtain ⟨ll, rfl⟩ := Int.eq_ofNat_of_zero_le a5
      have f1 := hbk.lo mm
      have f2 := hbk.hi mm
      have x0 := hm.ld.cell (tab_at bb.f (show mm < m by omega))
      have fz0 : ∀ o, wr.frozen? ⟨gl, o, none⟩ = false := hm.ld.frozen
      have fz1 : ∀ o, wr.frozen? ⟨gl + 1, o, none⟩ = false := hm.us.frozen
      have x1 := hm.us.cell (m := 10 * mm + ll) (x := .bool (bb.g (10 * mm + ll))) (by rw [List.getElem?_map, tab_at bb.g (by omega)]; rfl)
      have x2 := hm.sh.cell (m := 1) rfl
      have x3 := hm.ld.lt
      have x4 := hm.us.lt
      have x5 := hm.sh.lt
      have vl := unhide HG
      have w1 : IntKind.i64.wrap (tsm (j.st.take k) + st) = tsm (j.st.take k) + st := wrap_i (by omega) (by omega)
      have w2 : IntKind.i64.wrap (bb.f mm + st) = bb.f mm + st := wrap_i (by omega) (by omega)
      have w3 : IntKind.i64.wrap (bb.f mm + st + S) = bb.f mm + st + S := wrap_i (by omega) (by omega)
      have w4 : IntKind.i64.wrap (10 * (mm : Int)) = 10 * (mm : Int) := wrap_i (by omega) (by omega)
      have w5 : IntKind.i64.wrap (10 * (mm : Int) + (ll : Int)) = ((10 * mm + ll : Nat) : Int) := by rw [wrap_i (by omega) (by omega)]; omega
      generalize hbf : bb.f mm = bf at *
      have HBF := hide hbf
      generalize hts : tsm (j.st.take k) = ts at *
      have HTS := hide hts
      clear hbf hts
      clear hm hb hbk
      go_wp2_with fail
      go_region
      cases hq : bb.g (10 * mm + ll) with
      | true =>
        rw [hq] at x1
        have HQ := hide hq
        clear hq
        go_wp2_with fail
        go_roundw
        case rel =>
          refine ⟨k + 1, by rw [tsm_take (unhide HXS), unhide HTS], by simp, hks, ?_, ?_⟩
          · rw [bjb_take S _ (unhide HXS), unhide HBB, bst_true (unhide HQ), unhide HBF]
            exact ⟨(((unhide HM2).load (by omega) (by omega) mm (bf + st)).bel (ba (Below.refl _ _) _)).1, (((unhide HM2).load (by omega) (by omega) mm (bf + st)).bel (ba (Below.refl _ _) _)).2, (((unhide HM2).load (by omega) (by omega) mm (bf + st)).bel (ba (Below.refl _ _) _)).3⟩
          · exact (ba (Below.setCell (unhide HB2) (Nat.le_of_lt vl) _) _).drew
        case measure => first | (simp only [intOf]; omega) | (simp [intOf]; omega)
      | false =>
        rw [hq] at x1
        have HQ := hide hq
        clear hq
        go_wp2_with fail
        go_region
        go_wp2_with fail
        go_roundw
        case rel =>
          refine ⟨k + 1, by rw [tsm_take (unhide HXS), unhide HTS], by simp, hks, ?_, ?_⟩
          · rw [bjb_take S _ (unhide HXS), unhide HBB, bst_false (unhide HQ), unhide HBF]
            have r := ((((unhide HM2).load (by omega) (by omega) mm (bf + st)).use (by omega) (by omega) (10 * mm + ll)).load (by omega) (by omega) mm (bf + st + S)).bel (ba (Below.refl _ _) (.cells #[.int .i64 (mm : Int), .int .i64 st, .int .i64 (ll : Int), .int .i64 se] 61))
            exact ⟨r.1, r.2, r.3⟩
          · exact (ba (Below.setCell (Below.setCell (Below.setCell (unhide HB2) (Nat.le_of_lt vl) _) (by simp only; omega) _) (Nat.le_of_lt vl) _) _).drew.drew
        case measure => first | (simp only [intOf]; omega) | (simp [intOf]; omega)
end Go.Proofs.Ytbgekppggakdoaa
