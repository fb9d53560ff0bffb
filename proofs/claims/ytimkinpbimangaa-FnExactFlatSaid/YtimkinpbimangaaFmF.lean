/-
  The model's Flat at every list of points.
-/
import Derived.Test.YtimkinpbimangaaFmR
import Derived.Test.YtimkinpbimangaaFtF
import Derived.Test.YtimkinpbimangaaBmB
import Derived.Test.YtimkinpbimangaaSpot
namespace Go.Proofs.Ytimkinpbimangaa
open Go.ChangeShapes Go.WideShapes Go.ChangeAt Go.RowKit
set_option linter.unusedVariables false
set_option linter.unusedSimpArgs false

/-- what the model's Flat answers -/
def FmAns (w w' : World) (pts : List Pt) (e : Ending) : Prop := ∃ r1 r2, e = .returned (.tuple #[r1, r2, .int .i64 (ftK pts)]) ∧ Row w' w.heap.size 3 1 r1 (ftP pts).length (ftP pts) ∧ Row w' w.heap.size 3 1 r2 (ftB pts).length (ftB pts)
/-- the way of the last step ahead -/
def lsu (pts : List Pt) (k : Nat) : Pt := if k = 0 then (1, 0) else un (wv pts (k - 1))
theorem lsu_succ (pts : List Pt) (k : Nat) : lsu pts (k + 1) = un (wv pts k) := by unfold lsu; rw [if_neg (by omega)]; rfl
theorem sgn_bd (n : Int) : -1 ≤ sgn n ∧ sgn n ≤ 1 := by unfold sgn; split <;> (try split) <;> omega
theorem lsu_bd (pts : List Pt) (k : Nat) : (-1 ≤ (lsu pts k).1 ∧ (lsu pts k).1 ≤ 1) ∧ -1 ≤ (lsu pts k).2 ∧ (lsu pts k).2 ≤ 1 := by
  unfold lsu
  split
  · simp
  · exact ⟨sgn_bd _, sgn_bd _⟩
theorem mul_small {a b : Int} (ha : -1 ≤ a ∧ a ≤ 1) (hb : -1 ≤ b ∧ b ≤ 1) : -1 ≤ a * b ∧ a * b ≤ 1 := by
  have : a = -1 ∨ a = 0 ∨ a = 1 := by omega
  rcases this with rfl | rfl | rfl <;> omega
theorem Row.alloc0 {w : World} {B t k : Nat} {v : Value} {n : Nat} {L : List Int} (h : Row w B t k v n L) (o : Obj) : Row (w.alloc o) B t k v n L := h.below (ba (Below.refl _ _) _)
structure FmX (w W : World) (pts : List Pt) (k : Nat) (r1 r2 : Value) : Prop where
  bel : Below w.heap.size w W
  sz : w.heap.size < W.heap.size
  e : Row W w.heap.size 3 1 (.slice (some ⟨w.heap.size, 0, none⟩) 0 0) 0 []
  p : Row W (w.heap.size + 1) 3 1 r1 k (mpT pts k)
  d : Dj r1 r2
structure Fm (w W : World) (pts : List Pt) (k : Nat) (r1 r2 : Value) : Prop where
  bel : Below w.heap.size w W
  sz : w.heap.size < W.heap.size
  e : Row W w.heap.size 3 1 (.slice (some ⟨w.heap.size, 0, none⟩) 0 0) 0 []
  p : Row W (w.heap.size + 1) 3 1 r1 k (mpT pts k)
  q : Row W (w.heap.size + 1) 3 1 r2 (k - 1) (mbT pts (k - 1))
  d : Dj r1 r2
theorem Fm.bl {w W W' : World} {pts : List Pt} {k : Nat} {r1 r2 : Value} (h : Fm w W pts k r1 r2) (hb : Below W.heap.size W W') : Fm w W' pts k r1 r2 := ⟨bc h.bel hb, Nat.lt_of_lt_of_le h.sz hb.size, h.e.below hb, h.p.below hb, h.q.below hb, h.d⟩
set_option maxHeartbeats 8000000 in
set_option maxRecDepth 100000 in
theorem ftM_any (b po N cap : Nat) (pts : List Pt) (w : World) (hl : pts.length = N) (hN : N ≤ 1048576) (hcap : N ≤ cap) (hb : b < w.heap.size) (hc : IntsAt w b po (fl2 pts)) :
    Calls Try.prog 25 #[.slice (some ⟨b, po, none⟩) N cap] w fun e w' => FmAns w w' pts e ∧ Below w.heap.size w w' := by
  unfold FmAns
  have n0 : (0 : Int) ≤ (N : Int) := Int.natCast_nonneg _
  by_cases hL : 4096 < N
  · have HANS := hide (ft_long (pts := pts) (by omega))
    have tL : decide ((4096 : Int) < (N : Int)) = true := decide_eq_true (by omega)
    clear hl hc
    go_enter Try.func25, Try.ntmps25
    go_wp2_with fail
    exact bodyPost_ret (v := .tuple #[.slice (some ⟨w.heap.size, 0, none⟩) 0 0, .slice (some ⟨w.heap.size, 0, none⟩) 0 0, .int .i64 2]) (by simp [results, Try.results25, go_sem]) rfl ⟨⟨_, _, by rw [(unhide HANS).1], by rw [(unhide HANS).2.1]; exact row_made _ _ _ _ (Nat.le_refl _) _ rfl, by rw [(unhide HANS).2.2]; exact row_made _ _ _ _ (Nat.le_refl _) _ rfl⟩, ba (Below.refl _ _) _⟩
  have tL : decide ((4096 : Int) < (N : Int)) = false := decide_eq_false (by omega)
  have hL' : ¬ 4096 < pts.length := by omega
  by_cases h2 : N < 2
  · have HANS := hide (ft_bad hL' (Or.inl (by omega)))
    have t2 : decide ((N : Int) < 2) = true := decide_eq_true (by omega)
    clear hl hc
    go_enter Try.func25, Try.ntmps25
    go_wp2_with fail
    exact bodyPost_ret (v := .tuple #[.slice (some ⟨w.heap.size, 0, none⟩) 0 0, .slice (some ⟨w.heap.size, 0, none⟩) 0 0, .int .i64 1]) (by simp [results, Try.results25, go_sem]) rfl ⟨⟨_, _, by rw [(unhide HANS).1], by rw [(unhide HANS).2.1]; exact row_made _ _ _ _ (Nat.le_refl _) _ rfl, by rw [(unhide HANS).2.2]; exact row_made _ _ _ _ (Nat.le_refl _) _ rfl⟩, ba (Below.refl _ _) _⟩
  have t2 : decide ((N : Int) < 2) = false := decide_eq_false (by omega)
  by_cases h41 : 41 < N
  · have HANS := hide (ft_no hL' (by
      cases hf : ftOk pts with
      | false => rfl
      | true => have := ft_le (by omega) hf; omega))
    have t3 : decide ((41 : Int) < (N : Int)) = true := decide_eq_true (by omega)
    clear hl hc
    go_enter Try.func25, Try.ntmps25
    go_wp2_with fail
    exact bodyPost_ret (v := .tuple #[.slice (some ⟨w.heap.size, 0, none⟩) 0 0, .slice (some ⟨w.heap.size, 0, none⟩) 0 0, .int .i64 1]) (by simp [results, Try.results25, go_sem]) rfl ⟨⟨_, _, by rw [(unhide HANS).1], by rw [(unhide HANS).2.1]; exact row_made _ _ _ _ (Nat.le_refl _) _ rfl, by rw [(unhide HANS).2.2]; exact row_made _ _ _ _ (Nat.le_refl _) _ rfl⟩, ba (Below.refl _ _) _⟩
  have t3 : decide ((41 : Int) < (N : Int)) = false := decide_eq_false (by omega)
  have HRP := hide (fun (W : World) (hW : Below w.heap.size w W) => ptsM_any b po cap pts W (by omega) (Nat.lt_of_lt_of_le hb hW.size) (ptsAt_of (hc.below hW hb)))
  rw [hl] at HRP
  have HBAD : Hid (pts.all ptOk = false → ftK pts = 1 ∧ ftP pts = [] ∧ ftB pts = []) := hide (fun h => ft_bad hL' (Or.inr h))
  have HNO : Hid (ftOk pts = false → ftK pts = 1 ∧ ftP pts = [] ∧ ftB pts = []) := hide (fun h => ft_no hL' h)
  have HDG : Hid (∀ i, i + 1 < N → dgn (wv pts i) → ftK pts = 1 ∧ ftP pts = [] ∧ ftB pts = []) := hide (fun i hi hd => ft_no hL' (by
      cases hf : ftOk pts with
      | false => rfl
      | true => exact absurd hd (ft_ndgn (by omega) hf (by omega))))
  have HYES : Hid (pts.all ptOk = true → ftOk pts = true → ftK pts = 0 ∧ ftP pts = mp pts ∧ ftB pts = mb pts) := hide (fun ha h => ft_yes hL' (by omega) ha h)
  have HOK : Hid (pts.all ptOk = true → ∀ i, i < N → ptOk (ptD pts i) = true) := hide (fun ha i hi => ptD_ok ha (by omega))
  have HPT : Hid (∀ i, i < N → ∀ W, Below w.heap.size w W → W.cell? ⟨b, po + i * 2, none⟩ = some (.int .i64 (ptD pts i).1) ∧ W.cell? ⟨b, po + i * 2 + 1, none⟩ = some (.int .i64 (ptD pts i).2)) := hide (fun i hi W hW => by
    have hx := fl2_D (pts := pts) (i := i) (by omega)
    have hh := hc.below hW hb
    exact ⟨hh.at0 hx.1, hh.at hx.2⟩)
  obtain ⟨M, hM⟩ : ∃ M, N = M + 1 := ⟨N - 1, by omega⟩
  have HEM : Hid (mp pts = mpT pts M ∧ mb pts = mbT pts (M - 1) ∧ (mp pts).length = M ∧ (mb pts).length = M - 1) := hide (by
    refine ⟨?_, ?_, ?_, ?_⟩
    · unfold mp mpT; rw [hl, hM]; rfl
    · unfold mb mbT; rw [hl, hM]; rfl
    · rw [mp_len, hl, hM]; rfl
    · rw [mb_len, hl, hM]; rfl)
  have HBN := hide (fun (u1 u2 : Option Addr) (c1 c2 : Nat) (W : World) (h1 : Its W u1 (bo u1) 0 (mp pts)) (h2 : Its W u2 (bo u2) 0 (mb pts)) => bnM_any u1 u2 (bo u1) 0 (bo u2) 0 M (M - 1) c1 c2 (mp pts) (mb pts) W (by rw [mp_len, hl, hM]; rfl) (by rw [mb_len, hl, hM]; rfl) (by omega) (by omega) h1 h2)
  have HL41 : Hid ((bnL (mp pts) (mb pts)).length ≤ 41) := hide (bnL_len _ _)
  have HOKD : Hid (ftOk pts = decide ((bnK (mp pts) (mb pts)).1 = 0 ∧ bnL (mp pts) (mb pts) = pts)) := hide rfl
  have HLEN : Hid (pts.length = N) := hide hl
  have HMN := hide hM
  have m1 : 1 ≤ M := by omega
  have m2 : M ≤ 40 := by omega
  obtain ⟨iP, hi1, hp0, hp1, hp2⟩ := info_parts int_info3
  have HW0 := hide (ba (Below.refl w.heap.size w) (.cells #[] 3))
  have HE0 := hide (row_made w 3 w.heap.size 1 (Nat.le_refl _) _ rfl)
  clear hc hl hM hL hL'
  go_enter Try.func25, Try.ntmps25
  go_wp2_with fail
  refine (unhide HRP _ (unhide HW0)).mono ?_
  rintro e W1 ⟨rfl, hb1⟩
  have HB1 := hide (bc (unhide HW0) hb1)
  have HE1 := hide ((unhide HE0).below hb1)
  have hs1 : w.heap.size < W1.heap.size := Nat.lt_of_lt_of_le (by simp) hb1.size
  clear hb1 HE0 HW0
  cases ha : pts.all ptOk with
  | false =>
    have HANS := hide (unhide HBAD ha)
    go_wp2_with fail
    exact bodyPost_ret (v := .tuple #[.slice (some ⟨w.heap.size, 0, none⟩) 0 0, .slice (some ⟨w.heap.size, 0, none⟩) 0 0, .int .i64 1]) (by simp [results, Try.results25, go_sem]) rfl ⟨⟨_, _, by rw [(unhide HANS).1], by rw [(unhide HANS).2.1]; exact unhide HE1, by rw [(unhide HANS).2.2]; exact unhide HE1⟩, unhide HB1⟩
  | true =>
    have HOK := hide (unhide HOK ha)
    have HYES := hide (unhide HYES ha)
    clear ha
    go_wp2_with fail
    go_loopw [6, 7, 8, 9, 10] (fun r1 r2 d0 d1 s W => ∃ k : Nat, d0 = .int .i64 (lsu pts k).1 ∧ d1 = .int .i64 (lsu pts k).2 ∧ s = .int .i64 ((k + 1 : Nat) : Int) ∧ k ≤ M ∧ Fm w W pts k r1 r2 ∧ ∀ j, j < k → ¬ dgn (wv pts j)) (fun _ _ _ _ s _ => N - (intOf s).toNat)
    case atStart => exact ⟨0, rfl, rfl, rfl, Nat.zero_le _, ⟨ba (ba (unhide HB1) _) _, by simp; omega, ((unhide HE1).alloc0 _).alloc0 _, (row_made W1 3 (w.heap.size + 1) 1 (by omega) _ rfl).alloc0 _, row_made (W1.alloc (.cells #[] 3)) 3 (w.heap.size + 1) 1 (by simp; omega) _ (by simp), fun q hq e => by simp [Value.ownBlock] at hq e; omega⟩, fun j hj => absurd hj (by omega)⟩
    case round =>
      obtain ⟨k, rfl, rfl, rfl, hk, hfm, hnd⟩ := hrel
      have HFM := hide hfm
      have HND := hide hnd
      have hsz := hfm.sz
      clear hfm hnd HB1 HE1 hs1
      by_cases h : k < M
      · have hNM := unhide HMN
        have i1 : ((k + 1 : Nat) : Int) < (N : Int) := by omega
        have iz : decide (((k + 1 : Nat) : Int) < (N : Int)) = true := decide_eq_true i1
        have h1N : k + 1 < N := by omega
        have h0N : k < N := by omega
        have ok0 := unhide HOK k h0N
        have ok1 := unhide HOK (k + 1) h1N
        have wb := sub_bd ok1 ok0
        have ew : sub (ptD pts (k + 1)) (ptD pts k) = wv pts k := rfl
        rw [ew] at wb
        have wk : IntKind.i64.wrap (((k + 1 : Nat) : Int) - 1) = (k : Int) := by rw [wrap_i (by omega) (by omega)]; omega
        have wx : IntKind.i64.wrap ((ptD pts (k + 1)).1 - (ptD pts k).1) = (wv pts k).1 := wrap_i (by have : (wv pts k).1 = (ptD pts (k + 1)).1 - (ptD pts k).1 := rfl; omega) (by have : (wv pts k).1 = (ptD pts (k + 1)).1 - (ptD pts k).1 := rfl; omega)
        have wy' : IntKind.i64.wrap ((ptD pts (k + 1)).2 - (ptD pts k).2) = (wv pts k).2 := wrap_i (by have : (wv pts k).2 = (ptD pts (k + 1)).2 - (ptD pts k).2 := rfl; omega) (by have : (wv pts k).2 = (ptD pts (k + 1)).2 - (ptD pts k).2 := rfl; omega)
        have HDK := hide (unhide HDG k h1N)
        obtain ⟨⟨ub1, ub2⟩, vb1, vb2⟩ := wb
        clear ok0 ok1 ew hNM
        generalize hK1 : k + 1 = K1 at *
        have HK1 := hide hK1
        clear hK1
        go_wp2_with fail
        refine Go.Code.wp_mono (Only.to (fun _ _ h => h)) (fm13 (j := k) (hide (unhide HPT K1 h1N _ (unhide HFM).bel).1) (hide (unhide HPT k h0N _ (unhide HFM).bel).1) (hide h1N) (hide wk) (hide h0N) (hide wx) ?_)
        intro X1 hX1
        have HFM := hide ((unhide HFM).bl hX1)
        clear hX1
        go_wp2_with fail
        refine Go.Code.wp_mono (Only.to (fun _ _ h => h)) (fm14 (j := k) (hide (unhide HPT K1 h1N _ (unhide HFM).bel).2) (hide (unhide HPT k h0N _ (unhide HFM).bel).2) (hide h1N) (hide wk) (hide h0N) (hide wy') ?_)
        intro X2 hX2
        have HFM := hide ((unhide HFM).bl hX2)
        have hszX := (unhide HFM).sz
        clear hX2 wx wy' wk
        have HUN := hide (fun (hd : ¬ dgn (wv pts k)) => un_div hd)
        have HSB := hide (show (-1 ≤ (un (wv pts k)).1 ∧ (un (wv pts k)).1 ≤ 1) ∧ -1 ≤ (un (wv pts k)).2 ∧ (un (wv pts k)).2 ≤ 1 from ⟨sgn_bd _, sgn_bd _⟩)
        have HDD : Hid (dgn (wv pts k) ↔ ((wv pts k).1 = 0 ∧ (wv pts k).2 = 0) ∨ ((wv pts k).1 ≠ 0 ∧ (wv pts k).2 ≠ 0)) := hide Iff.rfl
        have hln : lnG (wv pts k) = ((wv pts k).1.natAbs : Int) + ((wv pts k).2.natAbs : Int) := rfl
        have wl : IntKind.i64.wrap (((wv pts k).1.natAbs : Int) + ((wv pts k).2.natAbs : Int)) = lnG (wv pts k) := by rw [hln]; exact wrap_i (by omega) (by omega)
        have HMP : Hid (mpT pts (k + 1) = mpT pts k ++ [lnG (wv pts k)]) := hide (mpT_succ pts k)
        have HMB : Hid (k ≠ 0 → ¬ dgn (wv pts k) → mbT pts k = mbT pts (k - 1) ++ [(lsu pts k).1 * (un (wv pts k)).2 - (lsu pts k).2 * (un (wv pts k)).1]) := hide (fun h0 hd => by
          obtain ⟨j, rfl⟩ : ∃ j, k = j + 1 := ⟨k - 1, by omega⟩
          rw [lsu_succ, un_acr (unhide HND j (by omega)) hd]
          exact mbT_succ pts j)
        have HLS : Hid (lsu pts (k + 1) = un (wv pts k)) := hide (lsu_succ pts k)
        have lb := lsu_bd pts k
        have HNX : Hid (¬ dgn (wv pts k) → ∀ j, j < k + 1 → ¬ dgn (wv pts j)) := hide (fun hd j hj => by
          by_cases e : j < k
          · exact unhide HND j e
          · obtain rfl : j = k := by omega
            exact hd)
        generalize hL : lnG (wv pts k) = ln at *
        generalize hU0 : (wv pts k).1 = u0' at *
        generalize hU1 : (wv pts k).2 = v0' at *
        go_wp2_with fail
        refine (abs_any u0' _ (by omega) (by omega)).mono ?_
        rintro e Y1 ⟨rfl, hy1⟩
        rw [hy1]
        clear hy1 Y1
        go_wp2_with fail
        refine (abs_any v0' _ (by omega) (by omega)).mono ?_
        rintro e Y1 ⟨rfl, hy1⟩
        rw [hy1]
        clear hy1 Y1
        by_cases hd : dgn (wv pts k)
        · have HANS := hide (unhide HDK hd)
          have HRE := hide (unhide HFM).e
          have HRB := hide (unhide HFM).bel
          rcases (unhide HDD).1 hd with ⟨hz0, hz1⟩ | ⟨hz0, hz1⟩
          · have l0 : ln = 0 := by rw [hln, hz0, hz1]; rfl
            clear hln hd hL hU0 hU1
            subst hz0 hz1 l0
            go_wp2_with fail
            exact bodyPost_ret (v := .tuple #[.slice (some ⟨w.heap.size, 0, none⟩) 0 0, .slice (some ⟨w.heap.size, 0, none⟩) 0 0, .int .i64 1]) (by simp [results, Try.results25, go_sem]) rfl ⟨⟨_, _, by rw [(unhide HANS).1], by rw [(unhide HANS).2.1]; exact unhide HRE, by rw [(unhide HANS).2.2]; exact unhide HRE⟩, unhide HRB⟩
          · have l0 : ¬ ln = 0 := by rw [hln]; omega
            have l1 : (ln == 0) = false := by simp [l0]
            have e0 : (u0' != 0) = true := by simp [hz0]
            have e1 : (v0' != 0) = true := by simp [hz1]
            clear hln hd hL hU0 hU1
            go_wp2_with fail
            exact bodyPost_ret (v := .tuple #[.slice (some ⟨w.heap.size, 0, none⟩) 0 0, .slice (some ⟨w.heap.size, 0, none⟩) 0 0, .int .i64 1]) (by simp [results, Try.results25, go_sem]) rfl ⟨⟨_, _, by rw [(unhide HANS).1], by rw [(unhide HANS).2.1]; exact unhide HRE, by rw [(unhide HANS).2.2]; exact unhide HRE⟩, unhide HRB⟩
        · obtain ⟨hq0, hq1⟩ := unhide HUN hd
          have HMB := hide (fun h0 => unhide HMB h0 hd)
          have HNX := hide (unhide HNX hd)
          have hsb := unhide HSB
          have hor : (u0' = 0 ∧ v0' ≠ 0) ∨ (u0' ≠ 0 ∧ v0' = 0) := by
            have := fun hh => hd ((unhide HDD).2 hh)
            by_cases q0 : u0' = 0
            · by_cases q1 : v0' = 0
              · exact absurd (Or.inl ⟨q0, q1⟩) this
              · exact Or.inl ⟨q0, q1⟩
            · by_cases q1 : v0' = 0
              · exact Or.inr ⟨q0, q1⟩
              · exact absurd (Or.inr ⟨q0, q1⟩) this
          have l0 : ¬ ln = 0 := by rw [hln]; omega
          have l1 : (ln == 0) = false := by simp [l0]
          generalize hP0 : (un (wv pts k)).1 = p0 at *
          generalize hP1 : (un (wv pts k)).2 = p1 at *
          have HP0 := hide hP0
          have HP1 := hide hP1
          clear hP0 hP1
          obtain ⟨⟨s1, s2⟩, s3, s4⟩ := hsb
          have tt : ((u0' != 0) = false ∧ u0' = 0) ∨ ((u0' != 0) = true ∧ ¬ u0' = 0 ∧ (v0' != 0) = false ∧ v0' = 0) := by
            rcases hor with ⟨q0, q1⟩ | ⟨q0, q1⟩
            · exact Or.inl ⟨by simp [q0], q0⟩
            · exact Or.inr ⟨by simp [q0], q0, by simp [q1], q1⟩
          have wq0 : IntKind.i64.wrap p0 = p0 := wrap_i (by omega) (by omega)
          have wq1 : IntKind.i64.wrap p1 = p1 := wrap_i (by omega) (by omega)
          have HHOR := hide hor
          clear hor hln hd hL hU0 hU1 HUN HDD HDK
          replace tt : (u0' != 0) = false ∨ ((u0' != 0) = true ∧ (v0' != 0) = false) := by
            rcases tt with ⟨y1, _⟩ | ⟨y1, _, y2, _⟩
            · exact Or.inl y1
            · exact Or.inr ⟨y1, y2⟩
          rcases tt with y1 | ⟨y1, y2⟩
          all_goals
            by_cases hk0 : k = 0
            · have j1 : decide ((1 : Int) < (K1 : Int)) = false := decide_eq_false (by have := unhide HK1; omega)
              have j2 : ¬ (1 < K1) := by have := unhide HK1; omega
              have j3 : ¬ ((1 : Int) < (K1 : Int)) := by omega
              have e0 : k - 1 = k := by omega
              have HFQ : Hid (Row X2 (w.heap.size + 1) 3 1 u7 k (mbT pts k)) := hide (by have := (unhide HFM).q; rwa [e0] at this)
              have HKZ := hide hk0
              clear hk0 e0
              go_wp2_with (at_builtin; refine unhide ?_)
              refine hide ?_
              refine wpList_append_new _ rfl _ _ 23 rfl (w.heap.size + 1) 3 iP _ 1 8 Try.underlying23 hi1 hp0 hp1 hp2 rfl (by decide) _ _ _ rfl ((unhide HFM).p.below (ba (Below.refl _ _) _)) _ 1 1 ([ln].map (Value.int .i64)) rfl rfl (by first | exact news_cells _ _ rfl | exact news_cells _ _ (by simp)) ints_one (by unfold maxLen; omega) (by omega) (by first | omega | (simp; omega)) ?_
              intro r1' wy9 hown1 hgr1 _ hnew1
              have hal1 : Below X2.heap.size X2 (X2.alloc (.cells #[.int .i64 ln] 3)) := ba (Below.refl _ _) _
              have HFE : Hid (Fm w wy9 pts (k + 1) r1' u7) := hide ⟨(bc (unhide HFM).bel hal1).grown (B := w.heap.size) hgr1 (by simp; omega) (fun q e => by have h9 := ((unhide HFM).p.lt q e).1; omega), Nat.lt_of_lt_of_le (by simp; omega) hgr1.size, ((unhide HFM).e.below hal1).grown hgr1 (fun q hq e => by have h9 := ((unhide HFM).p.lt q e).1; simp [Value.ownBlock] at hq; omega), by rw [unhide HMP]; unfold Row; rw [List.map_append]; exact hown1, by rw [show k + 1 - 1 = k from rfl]; exact ((unhide HFQ).below hal1).grown hgr1 (fun q hq e => (unhide HFM).d.symm q hq e), ((unhide HFM).d.symm.new ((unhide HFQ).below hal1) hnew1).symm⟩
              clear hown1 hgr1 hnew1 hal1
              go_wp2_with fail
              go_roundw
              case rel => first | exact ⟨k + 1, by rw [unhide HLS, unhide HP0], by rw [unhide HLS, unhide HP1], by have := unhide HK1; subst this; simp, by omega, unhide HFE, unhide HNX⟩ | ((repeat apply Exists.intro); refine ⟨?_, rfl⟩; exact ⟨k + 1, by rw [unhide HLS, unhide HP0], by rw [unhide HLS, unhide HP1], by have := unhide HK1; subst this; simp, by omega, unhide HFE, unhide HNX⟩)
              case measure => first | (simp only [intOf]; omega) | (simp [intOf]; omega)
            · have j1 : decide ((1 : Int) < (K1 : Int)) = true := decide_eq_true (by have := unhide HK1; omega)
              have j2 : 1 < K1 := by have := unhide HK1; omega
              have j3 : (1 : Int) < (K1 : Int) := by omega
              have HKB := hide (unhide HMB hk0)
              have HI1 : Hid (k - 1 + 1 = k) := hide (by omega)
              obtain ⟨lb1, lb2⟩ := lb
              have ms1 := mul_small lb1 (b := p1) ⟨s3, s4⟩
              have ms2 := mul_small lb2 (b := p0) ⟨s1, s2⟩
              generalize (lsu pts k).1 = d0 at *
              generalize (lsu pts k).2 = d1 at *
              have w5 : IntKind.i64.wrap (d0 * p1) = d0 * p1 := wrap_i (by omega) (by omega)
              have w6 : IntKind.i64.wrap (d1 * p0) = d1 * p0 := wrap_i (by omega) (by omega)
              obtain ⟨bv, hbv⟩ : ∃ bv, d0 * p1 - d1 * p0 = bv := ⟨_, rfl⟩
              rw [hbv] at HKB
              have w7 : IntKind.i64.wrap (d0 * p1 - d1 * p0) = bv := by rw [hbv]; exact wrap_i (by omega) (by omega)
              clear hbv ms1 ms2 lb1 lb2 hk0
              go_wp2_with (at_builtin; refine unhide ?_)
              refine hide ?_
              refine wpList_append_new _ rfl _ _ 23 rfl (w.heap.size + 1) 3 iP _ 1 8 Try.underlying23 hi1 hp0 hp1 hp2 rfl (by decide) _ _ _ rfl ((unhide HFM).q.below (ba (Below.refl _ _) _)) _ 1 1 ([bv].map (Value.int .i64)) rfl rfl (by first | exact news_cells _ _ rfl | exact news_cells _ _ (by simp)) ints_one (by unfold maxLen; omega) (by omega) (by first | omega | (simp; omega)) ?_
              intro r2' wz hown' hgrow _ hnew
              have hal : Below X2.heap.size X2 (X2.alloc (.cells #[.int .i64 bv] 3)) := ba (Below.refl _ _) _
              have HQN : Hid (Row wz (w.heap.size + 1) 3 1 r2' k (mbT pts k)) := hide (by
                have := hown'
                rw [unhide HI1] at this
                rw [unhide HKB]
                unfold Row
                rw [List.map_append]
                exact this)
              have HFM2 : Hid (Below w.heap.size w wz ∧ w.heap.size < wz.heap.size ∧ Row wz w.heap.size 3 1 (.slice (some ⟨w.heap.size, 0, none⟩) 0 0) 0 [] ∧ Row wz (w.heap.size + 1) 3 1 u6 k (mpT pts k) ∧ Dj u6 r2') := hide ⟨(bc (unhide HFM).bel hal).grown (B := w.heap.size) hgrow (by simp; omega) (fun q e => by have h9 := ((unhide HFM).q.lt q e).1; omega), Nat.lt_of_lt_of_le (by simp; omega) hgrow.size, ((unhide HFM).e.below hal).grown hgrow (fun q hq e => by have h9 := ((unhide HFM).q.lt q e).1; simp [Value.ownBlock] at hq; omega), ((unhide HFM).p.below hal).grown hgrow (fun q hq e => (unhide HFM).d q hq e), (unhide HFM).d.new ((unhide HFM).p.below hal) hnew⟩
              have hszz := (unhide HFM2).2.1
              have HFN : Hid (FmX w wz pts k u6 r2') := hide ⟨(unhide HFM2).1, (unhide HFM2).2.1, (unhide HFM2).2.2.1, (unhide HFM2).2.2.2.1, (unhide HFM2).2.2.2.2⟩
              clear hown' hgrow hnew hal HFM HFM2
              go_wp2_with (at_builtin; refine unhide ?_)
              refine hide ?_
              refine wpList_append_new _ rfl _ _ 23 rfl (w.heap.size + 1) 3 iP _ 1 8 Try.underlying23 hi1 hp0 hp1 hp2 rfl (by decide) _ _ _ rfl ((unhide HFN).p.below (ba (Below.refl _ _) _)) _ 1 1 ([ln].map (Value.int .i64)) rfl rfl (by first | exact news_cells _ _ rfl | exact news_cells _ _ (by simp)) ints_one (by unfold maxLen; omega) (by omega) (by first | omega | (simp; omega)) ?_
              intro r1' wy9 hown1 hgr1 _ hnew1
              have hal1 : Below wz.heap.size wz (wz.alloc (.cells #[.int .i64 ln] 3)) := ba (Below.refl _ _) _
              have HFE : Hid (Fm w wy9 pts (k + 1) r1' r2') := hide ⟨(bc (unhide HFN).bel hal1).grown (B := w.heap.size) hgr1 (by simp; omega) (fun q e => by have h9 := ((unhide HFN).p.lt q e).1; omega), Nat.lt_of_lt_of_le (by simp; omega) hgr1.size, ((unhide HFN).e.below hal1).grown hgr1 (fun q hq e => by have h9 := ((unhide HFN).p.lt q e).1; simp [Value.ownBlock] at hq; omega), by rw [unhide HMP]; unfold Row; rw [List.map_append]; exact hown1, by rw [show k + 1 - 1 = k from rfl]; exact ((unhide HQN).below hal1).grown hgr1 (fun q hq e => (unhide HFN).d.symm q hq e), ((unhide HFN).d.symm.new ((unhide HQN).below hal1) hnew1).symm⟩
              clear hown1 hgr1 hnew1 hal1
              go_wp2_with fail
              go_roundw
              case rel => first | exact ⟨k + 1, by rw [unhide HLS, unhide HP0], by rw [unhide HLS, unhide HP1], by have := unhide HK1; subst this; simp, by omega, unhide HFE, unhide HNX⟩ | ((repeat apply Exists.intro); refine ⟨?_, rfl⟩; exact ⟨k + 1, by rw [unhide HLS, unhide HP0], by rw [unhide HLS, unhide HP1], by have := unhide HK1; subst this; simp, by omega, unhide HFE, unhide HNX⟩)
              case measure => first | (simp only [intOf]; omega) | (simp [intOf]; omega)
      · have hNM := unhide HMN
        have iz : decide (((k + 1 : Nat) : Int) < (N : Int)) = false := decide_eq_false (by omega)
        have iz2 : ¬ ((k + 1 : Nat) : Int) < (N : Int) := by omega
        obtain rfl : M = k := by omega
        clear HND hNM
        obtain ⟨ua, c1, hua, _⟩ := (unhide HFM).p.form
        obtain ⟨ub, c2, hub, _⟩ := (unhide HFM).q.form
        subst hua hub
        have HR1 : Hid (Row wr w.heap.size 3 1 (.slice ua M c1) M (mp pts)) := hide (by rw [(unhide HEM).1]; exact (unhide HFM).p.mono (by omega))
        have HR2 : Hid (Row wr w.heap.size 3 1 (.slice ub (M - 1) c2) (M - 1) (mb pts)) := hide (by rw [(unhide HEM).2.1]; exact (unhide HFM).q.mono (by omega))
        have HE := hide (unhide HFM).e
        have HB := hide (unhide HFM).bel
        clear HFM
        generalize hK1 : M + 1 = K1 at *
        generalize (lsu pts M).1 = d0 at *
        generalize (lsu pts M).2 = d1 at *
        have HK1 := hide hK1
        clear hK1
        go_wp2_with fail
        refine (unhide HBN ua ub c1 c2 _ (unhide HR1).its (unhide HR2).its).mono ?_
        rintro e W3 ⟨⟨r3, rfl, hr3⟩, hb3⟩
        have HR1 := hide ((unhide HR1).below hb3)
        have HR2 := hide ((unhide HR2).below hb3)
        have HE := hide ((unhide HE).below hb3)
        have HR3 := hide hr3
        have HB := hide (bc (unhide HB) hb3)
        clear hr3 hb3
        by_cases hkc : (bnK (mp pts) (mb pts)).1 = 0
        · obtain ⟨uc, c3, huc, hf3⟩ := (unhide HR3).form
          subst huc
          have HF3 := hide hf3
          clear hf3
          rw [hkc] at HOKD ⊢
          by_cases hml : (bnL (mp pts) (mb pts)).length = N
          · obtain ⟨g, rfl, hg, hgl, hints⟩ := unhide HF3 (by omega)
            have HCA : Hid (∀ i, i < N → ∀ W, Below W3.heap.size W3 W → W.cell? ⟨g, i * 2, none⟩ = some (.int .i64 (ptD (bnL (mp pts) (mb pts)) i).1) ∧ W.cell? ⟨g, i * 2 + 1, none⟩ = some (.int .i64 (ptD (bnL (mp pts) (mb pts)) i).2)) := hide (fun i hi W hW => by
              have hx := fl2_D (pts := bnL (mp pts) (mb pts)) (i := i) (by omega)
              have hh := hints.below hW hgl
              have h1 := hh _ _ hx.1
              have h2 := hh _ _ hx.2
              rw [Nat.zero_add] at h1 h2
              exact ⟨h1, h2⟩)
            have HEX : Hid ((∀ i, i < N → ptD (bnL (mp pts) (mb pts)) i = ptD pts i) → bnL (mp pts) (mb pts) = pts) := hide (fun h => pts_ext (by have := unhide HLEN; omega) (fun i hi => h i (by omega)))
            have HNEQ : Hid (∀ i, i < N → ptD (bnL (mp pts) (mb pts)) i ≠ ptD pts i → bnL (mp pts) (mb pts) ≠ pts) := hide (fun i hi h e => h (by rw [e]))
            clear hints HF3 HR3
            rw [hml]
            have HML := hide hml
            clear hml
            generalize bnL (mp pts) (mb pts) = A at *
            generalize (bnK (mp pts) (mb pts)).2 = kp at *
            have ne : ((N : Int) != (N : Int)) = false := by simp
            go_wp2_with fail
            go_loopw [17] (fun s W => ∃ i : Nat, s = .int .i64 (i : Int) ∧ i ≤ N ∧ Below W3.heap.size W3 W ∧ ∀ j, j < i → ptD A j = ptD pts j) (fun s _ => N - (intOf s).toNat)
            case atStart => exact ⟨0, rfl, Nat.zero_le _, Below.refl _ _, fun j hj => absurd hj (by omega)⟩
            case round =>
              obtain ⟨i, rfl, hi, hW, hF⟩ := hrel
              have HW := hide hW
              have HF := hide hF
              have HBW := hide (bc (unhide HB) hW)
              clear hW hF
              by_cases h : i < N
              · have i1 : (i : Int) < (N : Int) := by omega
                have i0 : (0 : Int) ≤ (i : Int) := Int.natCast_nonneg _
                have jz : decide ((i : Int) < (N : Int)) = true := decide_eq_true i1
                go_wp2_with fail
                refine Go.Code.wp_mono (Only.to (fun _ _ h => h)) (fm31 (hide (unhide HCA i h _ (unhide HW)).1) (hide (unhide HCA i h _ (unhide HW)).2) (hide (unhide HPT i h _ (unhide HBW)).1) (hide (unhide HPT i h _ (unhide HBW)).2) (hide h) (hide h) ?_)
                intro X4 hX4
                have HW1 := hide (bc (unhide HW) hX4)
                have HBW := hide (bc (unhide HBW) hX4)
                clear hX4
                by_cases he : ptD A i = ptD pts i
                · have e1 : (!decide ((ptD A i).1 = (ptD pts i).1) || !decide ((ptD A i).2 = (ptD pts i).2)) = false := by rw [he]; simp
                  rw [e1]
                  have HNX : Hid (∀ j, j < i + 1 → ptD A j = ptD pts j) := hide (by
                    intro j hj
                    by_cases e : j < i
                    · exact unhide HF j e
                    · obtain rfl : j = i := by omega
                      exact he)
                  clear e1 he
                  go_wp2_with fail
                  go_roundw
                  case rel => first | exact ⟨i + 1, by simp, h, unhide HW1, unhide HNX⟩ | ((repeat apply Exists.intro); refine ⟨?_, rfl⟩; exact ⟨i + 1, by simp, h, unhide HW1, unhide HNX⟩)
                  case measure => first | (simp only [intOf]; omega) | (simp [intOf]; omega)
                · have e1 : (!decide ((ptD A i).1 = (ptD pts i).1) || !decide ((ptD A i).2 = (ptD pts i).2)) = true := by
                    by_cases h1 : (ptD A i).1 = (ptD pts i).1
                    · by_cases h2 : (ptD A i).2 = (ptD pts i).2
                      · exact absurd (Prod.ext h1 h2) he
                      · simp [h2]
                    · simp [h1]
                  rw [e1]
                  have HANS := hide (unhide HNO (by rw [unhide HOKD]; exact decide_eq_false (fun hh => unhide HNEQ i h he hh.2)))
                  have HRE := hide ((unhide HE).below (unhide HW1))
                  clear e1 he
                  go_wp2_with fail
                  exact bodyPost_ret (v := .tuple #[.slice (some ⟨w.heap.size, 0, none⟩) 0 0, .slice (some ⟨w.heap.size, 0, none⟩) 0 0, .int .i64 1]) (by simp [results, Try.results25, go_sem]) rfl ⟨⟨_, _, by rw [(unhide HANS).1], by rw [(unhide HANS).2.1]; exact unhide HRE, by rw [(unhide HANS).2.2]; exact unhide HRE⟩, unhide HBW⟩
              · have jz : decide ((i : Int) < (N : Int)) = false := decide_eq_false (by omega)
                have HANS := hide (unhide HYES (by rw [unhide HOKD]; exact decide_eq_true ⟨by first | rfl | trivial | exact hkc, unhide HEX (fun j hj => unhide HF j (by omega))⟩))
                have HR1 := hide ((unhide HR1).below (unhide HW))
                have HR2 := hide ((unhide HR2).below (unhide HW))
                go_wp2_with fail
                exact bodyPost_ret (v := .tuple #[.slice ua M c1, .slice ub (M - 1) c2, .int .i64 0]) (by simp [results, Try.results25, go_sem]) rfl ⟨⟨_, _, by rw [(unhide HANS).1], by rw [(unhide HANS).2.1, (unhide HEM).2.2.1]; exact unhide HR1, by rw [(unhide HANS).2.2, (unhide HEM).2.2.2]; exact unhide HR2⟩, unhide HBW⟩
          · have HANS := hide (unhide HNO (by rw [unhide HOKD]; exact decide_eq_false (fun hh => hml (by rw [hh.2]; exact unhide HLEN))))
            have HMN2 : Hid ((bnL (mp pts) (mb pts)).length ≤ 41) := HL41
            clear HF3 HR3
            generalize (bnL (mp pts) (mb pts)).length = ml at *
            generalize (bnK (mp pts) (mb pts)).2 = kp at *
            have ne : ((ml : Int) != (N : Int)) = true := by simp; omega
            have ne2 : ¬ (ml : Int) = (N : Int) := by omega
            go_wp2_with fail
            exact bodyPost_ret (v := .tuple #[.slice (some ⟨w.heap.size, 0, none⟩) 0 0, .slice (some ⟨w.heap.size, 0, none⟩) 0 0, .int .i64 1]) (by simp [results, Try.results25, go_sem]) rfl ⟨⟨_, _, by rw [(unhide HANS).1], by rw [(unhide HANS).2.1]; exact unhide HE, by rw [(unhide HANS).2.2]; exact unhide HE⟩, unhide HB⟩
        · have HANS := hide (unhide HNO (by rw [unhide HOKD]; exact decide_eq_false (fun h => hkc h.1)))
          clear HR3
          generalize (bnK (mp pts) (mb pts)).1 = kc at *
          generalize (bnK (mp pts) (mb pts)).2 = kp at *
          have t5 : (kc != 0) = true := by simp [hkc]
          go_wp2_with fail
          exact bodyPost_ret (v := .tuple #[.slice (some ⟨w.heap.size, 0, none⟩) 0 0, .slice (some ⟨w.heap.size, 0, none⟩) 0 0, .int .i64 1]) (by simp [results, Try.results25, go_sem]) rfl ⟨⟨_, _, by rw [(unhide HANS).1], by rw [(unhide HANS).2.1]; exact unhide HE, by rw [(unhide HANS).2.2]; exact unhide HE⟩, unhide HB⟩
end Go.Proofs.Ytimkinpbimangaa
