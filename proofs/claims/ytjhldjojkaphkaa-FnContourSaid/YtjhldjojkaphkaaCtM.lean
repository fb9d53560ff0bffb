/-
  The model's outline of a field that is one, at a height that is one.
-/
import Derived.Test.YtjhldjojkaphkaaCtM0
import Derived.Deep.LoopGhost
namespace Go.Proofs.Ytjhldjojkaphkaa
open Go.ChangeShapes Go.WideShapes Go.ChangeAt Go.RowKit
set_option linter.unusedVariables false
set_option linter.unusedSimpArgs false

/-- what an outline answers -/
structure Otl (W H : Nat) (T : List Int) (z : Int) (E : Int) (L : List Int) : Prop where
  none : (∀ i, i < W * H → ¬ z < tp T i) → E = 8 ∧ L = []
  some : ∀ x y K, Fst W H T z x y → Bck (Ab W H T z) ⟨(x : Int), (y : Int), 3⟩ K → E = 0 ∧ L = crn (Ab W H T z) ⟨(x : Int), (y : Int), 3⟩ K
/-- so far the outline has been gone round -/
structure Wlk (A : Int → Int → Bool) (s : Cst) (K k d : Nat) (px py : Int) : Prop where
  lt : k < K
  hx : (itr (nxt A) s k).x = px
  hy : (itr (nxt A) s k).y = py
  hd : nxd A (itr (nxt A) s k) = d
theorem Wlk.next {A : Int → Int → Bool} {s : Cst} {K k d : Nat} {px py : Int} (h : Wlk A s K k d px py) : itr (nxt A) s (k + 1) = ⟨px + wx d, py + wy d, d⟩ := by
  show (⟨(itr (nxt A) s k).x + wx (nxd A (itr (nxt A) s k)), (itr (nxt A) s k).y + wy (nxd A (itr (nxt A) s k)), nxd A (itr (nxt A) s k)⟩ : Cst) = _
  rw [h.hd, h.hx, h.hy]
theorem Wlk.go {A : Int → Int → Bool} {s : Cst} {K k d e : Nat} {px py : Int} (h : Wlk A s K k d px py) (hk : k + 1 < K) (he : nxd A ⟨px + wx d, py + wy d, d⟩ = e) : Wlk A s K (k + 1) e (px + wx d) (py + wy d) := by
  refine ⟨hk, ?_, ?_, ?_⟩ <;> rw [h.next]
  exact he
theorem crn_turn {A : Int → Int → Bool} {s : Cst} {K k d e : Nat} {px py : Int} (h : Wlk A s K k d px py) (he : nxd A ⟨px + wx d, py + wy d, d⟩ = e) (hn : e ≠ d) : crn A s (k + 1 + 1) = crn A s (k + 1) ++ [px + wx d, py + wy d] := by
  show crn A s (k + 1) ++ _ = _
  rw [h.next, he, if_neg hn]
theorem crn_stay {A : Int → Int → Bool} {s : Cst} {K k d : Nat} {px py : Int} (h : Wlk A s K k d px py) (he : nxd A ⟨px + wx d, py + wy d, d⟩ = d) : crn A s (k + 1 + 1) = crn A s (k + 1) := by
  show crn A s (k + 1) ++ _ = _
  rw [h.next, he, if_pos rfl, List.append_nil]
set_option maxHeartbeats 8000000 in
set_option maxRecDepth 100000 in
theorem ctM_good (W H n c g po : Nat) (T : List Int) (z : Int) (w : World) (hO : FOk (W : Int) (H : Int) T) (hn : n = W * H) (hz : 0 ≤ z ∧ z ≤ 23) (hF : Fd w g po n c T) :
    Calls Try.prog 16 #[fldV (W : Int) (H : Int) (some ⟨g, po, none⟩) n c, .int .i64 z] w fun e w' => (∃ (v : Value) (l : Nat) (L : List Int) (E : Int), e = .returned (.tuple #[v, .int .i64 E]) ∧ Row w' w.heap.size 46 2 v l L ∧ Otl W H T z E L) ∧ Below w.heap.size w w' := by
  obtain ⟨_, _, ea, eb, hW1, hW, hH1, hH, _⟩ := hO.nat
  cases Int.natCast_inj.1 ea
  cases Int.natCast_inj.1 eb
  have HFO := hide (fun X (hX : Below w.heap.size w X) => fokM_any (W : Int) (H : Int) (some ⟨g, po, none⟩) g po n c T X hF.len (by have := hF.cap; have := hF.top; omega) (hF.bel hX).its)
  have hfo : fokB (W : Int) (H : Int) T = true := decide_eq_true hO
  rw [hfo] at HFO
  have HAB := hide (fun (x y : Int) (X : World) (hX : Below w.heap.size w X) => abM_any W H n c g po T x y z X hW hH hn (hF.bel hX))
  have HB0 := hide (ba (Below.refl w.heap.size w) (.cells #[.int .i64 (W : Int), .int .i64 (H : Int), .slice (some ⟨g, po, none⟩) n c] 25))
  have HV0 := hide (vb_new w 25 [.int .i64 (W : Int), .int .i64 (H : Int), .slice (some ⟨g, po, none⟩) n c] w.heap.size rfl)
  have tz1 : decide (z < 0) = false := decide_eq_false (by omega)
  have tz2 : decide (24 ≤ z) = false := decide_eq_false (by omega)
  have wH : IntKind.i64.wrap ((H : Int) - 1) = (H : Int) - 1 := wrap_i (by omega) (by omega)
  have wW : IntKind.i64.wrap ((W : Int) - 1) = (W : Int) - 1 := wrap_i (by omega) (by omega)
  unfold fldV at *
  clear hF hfo ea eb hn hO
  go_enter Try.func16, Try.ntmps16
  go_upto_region 1 with fail
  generalize w.alloc (.cells #[.int .i64 (W : Int), .int .i64 (H : Int), .slice (some ⟨g, po, none⟩) n c] 25) = Wa at *
  have k0 := (unhide HV0).cell (m := 0) rfl
  have k1 := (unhide HV0).cell (m := 1) rfl
  have k2 := (unhide HV0).cell (m := 2) rfl
  go_wp2_with fail
  refine (unhide HFO _ (unhide HB0)).mono ?_
  rintro e W1 ⟨rfl, hb1⟩
  have hA : Below W1.heap.size W1 (W1.alloc (.cells #[.int .i64 (-1), .int .i64 0] 46)) := ba (Below.refl _ _) _
  have HV1 := hide (((unhide HV0).bel hb1).bel hA)
  have HB1 := hide (bc (bc (unhide HB0) hb1) hA)
  have HF1 := hide (vb_new W1 46 [.int .i64 (-1), .int .i64 0] W1.heap.size rfl)
  have hs1 : w.heap.size < W1.heap.size := Nat.lt_of_lt_of_le (unhide HV0).lt hb1.size
  clear hb1 hA HV0 HB0 k0 k1 k2
  go_upto_region 6 with fail
  generalize W1.alloc (.cells #[.int .i64 (-1), .int .i64 0] 46) = Wb at *
  generalize W1.heap.size = b6 at *
  have k1 := (unhide HV1).cell (m := 1) rfl
  go_wp2_with fail
  clear k1
  go_loopw [7] (fun zz X => ∃ (p : Nat) (pz fx fy : Int), zz = .int .i64 pz ∧ pz = (p : Int) - 1 ∧ p ≤ H ∧ Sc W H T z (p * W) fx fy ∧ vb X b6 46 [.int .i64 fx, .int .i64 fy] ∧ vb X w.heap.size 25 [.int .i64 (W : Int), .int .i64 (H : Int), .slice (some ⟨g, po, none⟩) n c] ∧ Below w.heap.size w X) (fun zz _ => (intOf zz + 1).toNat)
  case atStart => exact ⟨H, _, -1, 0, rfl, rfl, Nat.le_refl _, Sc.start W H T z, unhide HF1, unhide HV1, unhide HB1⟩
  case round =>
    obtain ⟨p, pz, fx, fy, rfl, hpz, hpH, hsc, hv6, hv0, hb⟩ := hrel
    have HPZ := hide hpz
    have HSC := hide hsc
    have H6 := hide hv6
    have H0 := hide hv0
    have HB := hide hb
    clear hsc hv6 hv0 hb HF1 HV1 HB1
    have k0 := (unhide H0).cell (m := 0) rfl
    by_cases hp : 0 < p
    · have lz : decide (0 ≤ pz) = true := decide_eq_true (by omega)
      obtain ⟨q, hq⟩ : ∃ q, p = q + 1 := ⟨p - 1, by omega⟩
      have HQ := hide hq
      have hqH : q < H := by omega
      have wq : IntKind.i64.wrap (pz - 1) = ((q : Nat) : Int) - 1 := (wrap_i (by omega) (by omega)).trans (by omega)
      have hz0 : 0 ≤ pz := by omega
      have hzq : pz < H := by omega
      clear hq hpz
      go_wp2_with fail
      clear k0
      go_loopw [8] (fun zz X => ∃ (u : Nat) (uz fx fy : Int), zz = .int .i64 uz ∧ uz = (u : Int) - 1 ∧ u ≤ W ∧ Sc W H T z (q * W + u) fx fy ∧ vb X b6 46 [.int .i64 fx, .int .i64 fy] ∧ vb X w.heap.size 25 [.int .i64 (W : Int), .int .i64 (H : Int), .slice (some ⟨g, po, none⟩) n c] ∧ Below w.heap.size w X) (fun zz _ => (intOf zz + 1).toNat)
      case atStart => exact ⟨W, _, fx, fy, rfl, rfl, Nat.le_refl _, by have := unhide HSC; rw [unhide HQ, Nat.add_mul, Nat.one_mul] at this; exact this, unhide H6, unhide H0, unhide HB⟩
      case round =>
        obtain ⟨u, uz, fx, fy, rfl, huz, huW, hsc, hv6, hv0, hb⟩ := hrel
        have HUZ := hide huz
        have HSC := hide hsc
        have H6 := hide hv6
        have H0 := hide hv0
        have HB := hide hb
        clear hsc hv6 hv0 hb
        by_cases hu : 0 < u
        · have lu : decide (0 ≤ uz) = true := decide_eq_true (by omega)
          obtain ⟨v, hv⟩ : ∃ v, u = v + 1 := ⟨u - 1, by omega⟩
          have wv : IntKind.i64.wrap (uz - 1) = ((v : Nat) : Int) - 1 := (wrap_i (by omega) (by omega)).trans (by omega)
          have k0 := (unhide H0).cell (m := 0) rfl
          have k1 := (unhide H0).cell (m := 1) rfl
          have k2 := (unhide H0).cell (m := 2) rfl
          have HVV := hide hv
          have hvW : v < W := by omega
          have hu0 : 0 ≤ uz := by omega
          have huv : uz < W := by omega
          clear hv huz
          go_wp2_with fail
          refine (unhide HAB uz pz _ (unhide HB)).mono ?_
          rintro e W2 ⟨rfl, hb2⟩
          have H6b := hide ((unhide H6).bel hb2)
          have H0b := hide ((unhide H0).bel hb2)
          have HBb := hide (bc (unhide HB) hb2)
          have HAA : Hid (Ab W H T z uz pz = decide (z < tp T (q * W + v))) := hide (by
            rw [show uz = (v : Int) by have := unhide HVV; have := unhide HUZ; omega, show pz = (q : Int) by have := unhide HQ; have := unhide HPZ; omega]
            exact Ab_at hvW hqH)
          clear hb2 H6 H0 HB k0 k1 k2
          rw [unhide HAA]
          by_cases hab : z < tp T (q * W + v)
          · rw [decide_eq_true hab]
            have f0 := (unhide H6b).cell (m := 0) rfl
            have f1 := (unhide H6b).cell (m := 1) rfl
            have ff := (unhide H6b).frozen
            have HY := hide (Sc.yes (T := T) (z := z) hvW hqH hab)
            clear hab
            go_wp2_with fail
            go_roundw
            case rel =>
              refine ⟨v, _, (v : Int), (q : Int), rfl, rfl, by omega, unhide HY, ?_, (unhide H0b).ne (by omega) |>.ne (by omega), Below.setCell (Below.setCell (unhide HBb) (Nat.le_of_lt hs1) _) (Nat.le_of_lt hs1) _⟩
              have h9 := ((unhide H6b).set 0 (.int .i64 uz)).set 1 (.int .i64 pz)
              rw [show (v : Int) = uz by have := unhide HVV; have := unhide HUZ; omega, show (q : Int) = pz by have := unhide HQ; have := unhide HPZ; omega]
              exact h9
            case measure => have := unhide HVV; have := unhide HUZ; simp [intOf]; omega
          · rw [decide_eq_false hab]
            have HN := hide (Sc.no (by have := unhide HSC; rw [unhide HVV] at this; exact this) hab)
            clear hab
            go_wp2_with fail
            go_roundw
            case rel =>
              exact ⟨v, _, fx, fy, rfl, rfl, by omega, unhide HN, unhide H6b, unhide H0b, unhide HBb⟩
            case measure => have := unhide HVV; have := unhide HUZ; simp [intOf]; omega
        · have lu : decide (0 ≤ uz) = false := decide_eq_false (by omega)
          obtain rfl : u = 0 := by omega
          go_wp2_with fail
          go_roundw
          case rel =>
            exact ⟨q, _, fx, fy, rfl, rfl, by omega, by simpa using unhide HSC, unhide H6, unhide H0, unhide HB⟩
          case measure => have := unhide HQ; have := unhide HPZ; simp [intOf]; omega
    · have lz : decide (0 ≤ pz) = false := decide_eq_false (by omega)
      obtain rfl : p = 0 := by omega
      have hd := Sc.done (by have := unhide HSC; rwa [Nat.zero_mul] at this)
      have f0 := (unhide H6).cell (m := 0) rfl
      have f1 := (unhide H6).cell (m := 1) rfl
      rcases hd with ⟨hno, rfl⟩ | ⟨x0, y0, rfl, rfl, hfst⟩
      · have HNO := hide hno
        clear hno
        go_wp2_with fail
        (try rw [Exit.noGoto_ret])
        refine bodyPost_ret (v := .tuple #[.slice (some ⟨wr.heap.size, 0, none⟩) 0 0, .int .i64 8]) (by simp [results, Try.results16, go_sem]) rfl ?_
        exact ⟨⟨_, 0, [], 8, rfl, row_made wr 46 w.heap.size 2 (unhide HB).size _ rfl, ⟨fun _ => ⟨rfl, rfl⟩, fun x y K hF _ => absurd hF.ab (Int.not_lt.2 (unhide HNO _ (by have h1 := Nat.mul_le_mul_right W (show y + 1 ≤ H from hF.hy); rw [Nat.add_mul, Nat.one_mul] at h1; have := hF.hx; rw [Nat.mul_comm W H]; omega)))⟩⟩, ba (unhide HB) _⟩
      · have HFS := hide hfst
        have hx0 := hfst.hx
        have hy0 := hfst.hy
        have hx1 : decide ((x0 : Int) < 0) = false := decide_eq_false (by omega)
        obtain ⟨iP, hi1, hp0, hp1, hp2⟩ := info_parts pt46
        have hck := hfst.ok
        obtain ⟨K, hK⟩ := Bck.ex hW hH (Ab_in (W := W) (H := H) (T := T) (z := z)) hck.1
        have HK := hide hK
        have HCK := hide hck.1
        have HS0 : Hid (crn (Ab W H T z) ⟨(x0 : Int), (y0 : Int), 3⟩ 1 = [(x0 : Int), (y0 : Int)]) := hide (by
          show crn (Ab W H T z) ⟨(x0 : Int), (y0 : Int), 3⟩ 0 ++ _ = _
          show [] ++ (if nxd (Ab W H T z) ⟨(x0 : Int), (y0 : Int), 3⟩ = 3 then [] else [(x0 : Int), (y0 : Int)]) = _
          rw [hck.2]
          rfl)
        have HW0 : Hid (Wlk (Ab W H T z) ⟨(x0 : Int), (y0 : Int), 3⟩ K 0 0 (x0 : Int) (y0 : Int)) := hide ⟨hK.one, rfl, rfl, hck.2⟩
        have hKb := hK.le
        clear hK hck hfst hpz
        go_upto_region 19 with fail
        have hA : Below wr.heap.size wr (wr.alloc (.cells #[.int .i64 (x0 : Int), .int .i64 (y0 : Int)] 46)) := ba (Below.refl _ _) _
        have H11a := hide (vb_new wr 46 [.int .i64 (x0 : Int), .int .i64 (y0 : Int)] wr.heap.size rfl)
        have H6a := hide ((unhide H6).bel hA)
        have H0a := hide ((unhide H0).bel hA)
        have HBa := hide (bc (unhide HB) hA)
        have h6lt := (unhide H6).lt
        clear hA H6 H0 HB f0 f1
        generalize wr.alloc (.cells #[.int .i64 (x0 : Int), .int .i64 (y0 : Int)] 46) = Wc at *
        generalize wr.heap.size = b11 at *
        have f0 := (unhide H6a).cell (m := 0) rfl
        have f1 := (unhide H6a).cell (m := 1) rfl
        go_wp2_with fail
        have hA : Below Wc.heap.size Wc (Wc.alloc (.cells #[.int .i64 (x0 : Int), .int .i64 (y0 : Int)] 46)) := ba (Below.refl _ _) _
        have H11 := hide ((unhide H11a).bel hA)
        have H6 := hide ((unhide H6a).bel hA)
        have H0 := hide ((unhide H0a).bel hA)
        have HB := hide (bc (unhide HBa) hA)
        have HR : Hid (Row (Wc.alloc (.cells #[.int .i64 (x0 : Int), .int .i64 (y0 : Int)] 46)) Wc.heap.size 46 2 (.slice (some ⟨Wc.heap.size, 0, none⟩) 1 1) 1 [(x0 : Int), (y0 : Int)]) := hide ⟨by simp, .inr ⟨Wc.heap.size, 1, #[.int .i64 (x0 : Int), .int .i64 (y0 : Int)], rfl, Nat.le_refl _, heap_alloc_new Wc _, Nat.le_refl _, by unfold maxLen; omega, by simp, by simp⟩⟩
        have hq11 := (unhide H11a).lt
        have hqw := (unhide HBa).size
        have hqs0 : Wc.heap.size ≤ (Wc.alloc (.cells #[.int .i64 (x0 : Int), .int .i64 (y0 : Int)] 46)).heap.size := by simp
        clear hA H11a H6a H0a HBa f0 f1
        generalize Wc.alloc (.cells #[.int .i64 (x0 : Int), .int .i64 (y0 : Int)] 46) = Wd at *
        generalize Value.slice (some ⟨Wc.heap.size, 0, none⟩) 1 1 = v12 at *
        generalize Wc.heap.size = Bq at *
        go_loopg [9, 10, 12] K (fun kk a9 a10 a12 X => ∃ (k d l : Nat) (px py : Int), a9 = .int .i64 (wx d) ∧ a10 = .int .i64 (wy d) ∧ kk = K - k ∧ l ≤ k + 1 ∧ Wlk (Ab W H T z) ⟨(x0 : Int), (y0 : Int), 3⟩ K k d px py ∧ Row X Bq 46 2 a12 l (crn (Ab W H T z) ⟨(x0 : Int), (y0 : Int), 3⟩ (k + 1)) ∧ Bq ≤ X.heap.size ∧ vb X b11 46 [.int .i64 px, .int .i64 py] ∧ vb X b6 46 [.int .i64 (x0 : Int), .int .i64 (y0 : Int)] ∧ vb X w.heap.size 25 [.int .i64 (W : Int), .int .i64 (H : Int), .slice (some ⟨g, po, none⟩) n c] ∧ Below w.heap.size w X)
        case atStart => exact ⟨0, 0, 1, _, _, rfl, rfl, rfl, Nat.le_refl _, unhide HW0, by rw [unhide HS0]; exact unhide HR, hqs0, unhide H11, unhide H6, unhide H0, unhide HB⟩
        case round =>
          clear HR H11 H6 H0 HB HW0 HS0
          obtain ⟨k, d, l, px, py, rfl, rfl, hgk, hl, hwk, hrow, hqs, hv11, hv6, hv0, hb⟩ := hrel
          have HGK := hide hgk
          have HWK := hide hwk
          have HR := hide hrow
          have H11 := hide hv11
          have H6 := hide hv6
          have H0 := hide hv0
          have HB := hide hb
          have hok1 := itr_ok (unhide HCK) k
          have hok2 := itr_ok (unhide HCK) (k + 1)
          have hin1 := cok_in (Ab_in (W := W) (H := H) (T := T) (z := z)) hok1
          have hin2 := cok_in (Ab_in (W := W) (H := H) (T := T) (z := z)) hok2
          have hd4 := hok2.d4
          rw [hwk.next] at hin2 hd4
          rw [hwk.hx, hwk.hy] at hin1
          simp only at hin2 hd4
          obtain ⟨ux, hux⟩ : ∃ ux, px + wx d = ux := ⟨_, rfl⟩
          obtain ⟨uy, huy⟩ : ∃ uy, py + wy d = uy := ⟨_, rfl⟩
          rw [hux, huy] at hin2
          have hkl := hwk.lt
          have wX : IntKind.i64.wrap (px + wx d) = ux := (wrap_i (by omega) (by omega)).trans hux
          have wY : IntKind.i64.wrap (py + wy d) = uy := (wrap_i (by omega) (by omega)).trans huy
          have HUX := hide hux
          have HUY := hide huy
          have c0 := (unhide H11).cell (m := 0) rfl
          have c1 := (unhide H11).cell (m := 1) rfl
          have cf := (unhide H11).frozen
          have hbx := wx_bd d
          have hby := wy_bd d
          have hu1 : -1000 ≤ ux ∧ ux ≤ 1000 := by omega
          have hu2 : -1000 ≤ uy ∧ uy ≤ 1000 := by omega
          clear hgk hwk hrow hv11 hv6 hv0 hb hok1 hok2 hin1 hin2 hux huy
          go_upto_region 21 with fail
          have hb6 : b6 ≠ b11 := by omega
          have hb0 : w.heap.size ≠ b11 := by omega
          have H11b := hide (((unhide H11).set 0 (.int .i64 ux)).set 1 (.int .i64 uy))
          have H6b := hide (((unhide H6).ne (o := 0) (x := .int .i64 ux) hb6).ne (o := 1) (x := .int .i64 uy) hb6)
          have H0b := hide (((unhide H0).ne (o := 0) (x := .int .i64 ux) hb0).ne (o := 1) (x := .int .i64 uy) hb0)
          have HRb : Hid (Row ((wr.setCell ⟨b11, 0, none⟩ (.int .i64 ux)).setCell ⟨b11, 1, none⟩ (.int .i64 uy)) Bq 46 2 u12 l (crn (Ab W H T z) ⟨(x0 : Int), (y0 : Int), 3⟩ (k + 1))) := hide ((unhide HR).kept' (fun gg hgg => by
            have hne : gg ≠ b11 := by have := ((unhide HR).lt gg hgg).1; omega
            exact (Below.heap_setCell _ _ _ _ hne).trans (Below.heap_setCell _ _ _ _ hne)))
          have HQb : Hid (Bq ≤ ((wr.setCell ⟨b11, 0, none⟩ (.int .i64 ux)).setCell ⟨b11, 1, none⟩ (.int .i64 uy)).heap.size) := hide (by have := hqs; simpa using this)
          have HBb := hide (((unhide HB).setCell (p := ⟨b11, 0, none⟩) (show w.heap.size ≤ b11 by omega) (.int .i64 ux)).setCell (p := ⟨b11, 1, none⟩) (show w.heap.size ≤ b11 by omega) (.int .i64 uy))
          have h11lt : b11 < ((wr.setCell ⟨b11, 0, none⟩ (.int .i64 ux)).setCell ⟨b11, 1, none⟩ (.int .i64 uy)).heap.size := (unhide H11b).lt
          clear HR H11 H6 H0 HB c0 c1 cf
          generalize (wr.setCell ⟨b11, 0, none⟩ (.int .i64 ux)).setCell ⟨b11, 1, none⟩ (.int .i64 uy) = We at *
          have c0 := (unhide H11b).cell (m := 0) rfl
          have c1 := (unhide H11b).cell (m := 1) rfl
          have f0 := (unhide H6b).cell (m := 0) rfl
          have f1 := (unhide H6b).cell (m := 1) rfl
          by_cases heq : ux = (x0 : Int) ∧ uy = (y0 : Int)
          · have he : ∀ X, (binOp .eql 46 (.agg #[.int .i64 ux, .int .i64 uy]) (.agg #[.int .i64 (x0 : Int), .int .i64 (y0 : Int)])).run Try.prog X = .ok (.bool true) X := fun X => by rw [eql46, decide_eq_true heq]
            have HEQ := hide heq
            clear heq
            go_wp2_with fail
            (try rw [Exit.noGoto_ret])
            refine bodyPost_ret (v := .tuple #[u12, .int .i64 0]) (by simp [results, Try.results16, go_sem]) rfl ?_
            refine ⟨⟨_, l, _, 0, rfl, (unhide HRb).mono hqw, ⟨fun hno => absurd (unhide HFS).ab (hno _ (ix_lt hx0 hy0)), fun x y K' hF hB' => ?_⟩⟩, unhide HBb⟩
            obtain ⟨rfl, rfl⟩ := hF.uniq (unhide HFS)
            obtain rfl := hB'.uniq (unhide HK)
            have hkK : k + 1 = K' := by
              rcases Nat.lt_or_eq_of_le (show k + 1 ≤ K' by omega) with h1 | h1
              · exfalso
                refine (unhide HK).no (k + 1) (by omega) h1 ?_
                rw [(unhide HWK).next]
                have := unhide HUX
                have := unhide HUY
                have := unhide HEQ
                exact ⟨by show px + wx d = (x : Int); omega, by show py + wy d = (y : Int); omega⟩
              · exact h1
            rw [← hkK]
            exact ⟨rfl, rfl⟩
          · have he : ∀ X, (binOp .eql 46 (.agg #[.int .i64 ux, .int .i64 uy]) (.agg #[.int .i64 (x0 : Int), .int .i64 (y0 : Int)])).run Try.prog X = .ok (.bool false) X := fun X => by rw [eql46, decide_eq_false heq]
            have hk1 : k + 1 < K := by
              rcases Nat.lt_or_eq_of_le (show k + 1 ≤ K by omega) with h1 | h1
              · exact h1
              · exfalso
                have h2 := (unhide HK).at'
                rw [← h1, (unhide HWK).next] at h2
                have := unhide HUX
                have := unhide HUY
                exact heq ⟨by have : px + wx d = (x0 : Int) := h2.1; omega, by have : py + wy d = (y0 : Int) := h2.2; omega⟩
            obtain ⟨lx, hlx⟩ : ∃ lx, ux + qx d = lx := ⟨_, rfl⟩
            obtain ⟨ly, hly⟩ : ∃ ly, uy + qy d = ly := ⟨_, rfl⟩
            obtain ⟨rx, hrx⟩ : ∃ rx, ux + qx (rt d) = rx := ⟨_, rfl⟩
            obtain ⟨ry, hry⟩ : ∃ ry, uy + qy (rt d) = ry := ⟨_, rfl⟩
            have HL : Hid (∀ X, Calls Try.prog 57 #[.agg #[.int .i64 ux, .int .i64 uy], .int .i64 (wx d), .int .i64 (wy d), .bool true] X fun e w' => e = .returned (.tuple #[.int .i64 lx, .int .i64 ly]) ∧ Below X.heap.size X w') := hide (fun X => by rw [← hlx, ← hly]; exact ahM_any d hd4 true ux uy X hu1 hu2)
            have HRR : Hid (∀ X, Calls Try.prog 57 #[.agg #[.int .i64 ux, .int .i64 uy], .int .i64 (wx d), .int .i64 (wy d), .bool false] X fun e w' => e = .returned (.tuple #[.int .i64 rx, .int .i64 ry]) ∧ Below X.heap.size X w') := hide (fun X => by rw [← hrx, ← hry]; exact ahM_any d hd4 false ux uy X hu1 hu2)
            have HCL : Hid (col (Ab W H T z) ⟨px + wx d, py + wy d, d⟩ d = Ab W H T z lx ly) := hide (by rw [unhide HUX, unhide HUY, ← hlx, ← hly]; rfl)
            have HCR : Hid (col (Ab W H T z) ⟨px + wx d, py + wy d, d⟩ (rt d) = Ab W H T z rx ry) := hide (by rw [unhide HUX, unhide HUY, ← hrx, ← hry]; rfl)
            have wl := w_lf hd4
            have wr' := w_rt hd4
            have HWL := hide wl
            have HWR := hide wr'
            have n1 : IntKind.i64.wrap (-(wy d)) = wx (lf d) := (wrap_i (by omega) (by omega)).trans wl.1.symm
            have n2 : IntKind.i64.wrap (-(wx d)) = wy (rt d) := (wrap_i (by omega) (by omega)).trans wr'.2.1.symm
            clear heq hlx hly hrx hry wl wr'
            go_upto_region 23 with fail
            go_wp2_with fail
            refine (unhide HL _).mono ?_
            rintro e W2 ⟨rfl, hb2⟩
            have H11c := hide ((unhide H11b).bel hb2)
            have H6c := hide ((unhide H6b).bel hb2)
            have H0c := hide ((unhide H0b).bel hb2)
            have HRc := hide ((unhide HRb).below hb2)
            have HBc := hide (bc (unhide HBb) hb2)
            have HQc := hide (Nat.le_trans (unhide HQb) hb2.size)
            clear hb2 H11b H6b H0b HRb HBb c0 c1 f0 f1 he h11lt
            have c0 := (unhide H11c).cell (m := 0) rfl
            have c1 := (unhide H11c).cell (m := 1) rfl
            go_wp2_with fail
            refine (unhide HRR _).mono ?_
            rintro e W3 ⟨rfl, hb2⟩
            have H11d := hide ((unhide H11c).bel hb2)
            have H6d := hide ((unhide H6c).bel hb2)
            have H0d := hide ((unhide H0c).bel hb2)
            have HRd := hide ((unhide HRc).below hb2)
            have HBd := hide (bc (unhide HBc) hb2)
            have HQd := hide (Nat.le_trans (unhide HQc) hb2.size)
            clear hb2 H11c H6c H0c HRc HBc c0 c1
            have k0 := (unhide H0d).cell (m := 0) rfl
            have k1 := (unhide H0d).cell (m := 1) rfl
            have k2 := (unhide H0d).cell (m := 2) rfl
            go_wp2_with fail
            refine (unhide HAB lx ly _ (unhide HBd)).mono ?_
            rintro e W4 ⟨rfl, hb2⟩
            have H11e := hide ((unhide H11d).bel hb2)
            have H6e := hide ((unhide H6d).bel hb2)
            have H0e := hide ((unhide H0d).bel hb2)
            have HRe := hide ((unhide HRd).below hb2)
            have HBe := hide (bc (unhide HBd) hb2)
            have HQe := hide (Nat.le_trans (unhide HQd) hb2.size)
            clear hb2 H11d H6d H0d HRd HBd k0 k1 k2
            have c0 := (unhide H11e).cell (m := 0) rfl
            have c1 := (unhide H11e).cell (m := 1) rfl
            cases hcl : Ab W H T z lx ly with
            | false =>
              have HND : Hid (nxd (Ab W H T z) ⟨px + wx d, py + wy d, d⟩ = lf d) := hide (by
                unfold nxd
                rw [if_pos ((unhide HCL).trans hcl)])
              clear hcl
              go_wp2_with (at_builtin; refine unhide ?_)
              refine hide ?_
              refine wpList_append_own _ rfl _ _ 41 rfl Bq 46 iP _ 2 16 Try.underlying41 hi1 hp0 hp1 hp2 rfl (by decide) _ _ _ rfl ((unhide HRe).alloc _) _ 1 1 ([ux, uy].map (Value.int .i64)) rfl rfl (by first | exact news_cells _ _ rfl | exact news_cells _ _ (by simp) | exact news_drew _ _ (by simp)) ints_one (by unfold maxLen; omega) (by omega) (by have := unhide HQe; simp; omega) ?_
              intro v' wz hown' hgrow _
              have hszw := unhide HQe
              have R := hide (own_more (wr := W4) (news := [ux, uy]) (by repeat (first | exact Below.refl _ _ | refine Below.alloc ?_ (by first | omega | (simp; omega)) _ | refine Below.drew ?_)) (by simp; omega) (unhide HRe) hown' hgrow)
              clear hown' hgrow
              go_wp2_with fail
              go_roundg (K - (k + 1))
              case measure => have := unhide HGK; omega
              case rel => exact ⟨k + 1, lf d, l + 1, ux, uy, by first | rfl | rw [(unhide HWL).1], by first | rfl | rw [(unhide HWL).2.1], rfl, by omega, by have h9 := (unhide HWK).go hk1 (unhide HND); rw [unhide HUX, unhide HUY] at h9; exact h9, by rw [crn_turn (unhide HWK) (unhide HND) (unhide HWL).2.2, unhide HUX, unhide HUY]; exact (unhide R).1, by have := (unhide R).2.size; omega, (unhide H11e).below (unhide R).2 hq11, (unhide H6e).below (unhide R).2 (by omega), (unhide H0e).below (unhide R).2 (by omega), (unhide HBe).trans ((unhide R).2.mono (by omega))⟩
            | true =>
              rw [hcl] at HCL
              clear hcl
              have k0 := (unhide H0e).cell (m := 0) rfl
              have k1 := (unhide H0e).cell (m := 1) rfl
              have k2 := (unhide H0e).cell (m := 2) rfl
              go_wp2_with fail
              refine (unhide HAB rx ry _ (unhide HBe)).mono ?_
              rintro e W5 ⟨rfl, hb2⟩
              have H11f := hide ((unhide H11e).bel hb2)
              have H6f := hide ((unhide H6e).bel hb2)
              have H0f := hide ((unhide H0e).bel hb2)
              have HRf := hide ((unhide HRe).below hb2)
              have HBf := hide (bc (unhide HBe) hb2)
              have HQf := hide (Nat.le_trans (unhide HQe) hb2.size)
              clear hb2 H11e H6e H0e HRe HBe k0 k1 k2 c0 c1
              have c0 := (unhide H11f).cell (m := 0) rfl
              have c1 := (unhide H11f).cell (m := 1) rfl
              cases hcr : Ab W H T z rx ry with
              | true =>
                have HND : Hid (nxd (Ab W H T z) ⟨px + wx d, py + wy d, d⟩ = rt d) := hide (by
                  unfold nxd
                  rw [if_neg (by rw [unhide HCL]; simp), if_pos ((unhide HCR).trans hcr)])
                clear hcr
                go_wp2_with (at_builtin; refine unhide ?_)
                refine hide ?_
                refine wpList_append_own _ rfl _ _ 41 rfl Bq 46 iP _ 2 16 Try.underlying41 hi1 hp0 hp1 hp2 rfl (by decide) _ _ _ rfl ((unhide HRf).alloc _) _ 1 1 ([ux, uy].map (Value.int .i64)) rfl rfl (by first | exact news_cells _ _ rfl | exact news_cells _ _ (by simp) | exact news_drew _ _ (by simp)) ints_one (by unfold maxLen; omega) (by omega) (by have := unhide HQf; simp; omega) ?_
                intro v' wz hown' hgrow _
                have hszw := unhide HQf
                have R := hide (own_more (wr := W5) (news := [ux, uy]) (by repeat (first | exact Below.refl _ _ | refine Below.alloc ?_ (by first | omega | (simp; omega)) _ | refine Below.drew ?_)) (by simp; omega) (unhide HRf) hown' hgrow)
                clear hown' hgrow
                go_wp2_with fail
                go_roundg (K - (k + 1))
                case measure => have := unhide HGK; omega
                case rel => exact ⟨k + 1, rt d, l + 1, ux, uy, by first | rfl | rw [(unhide HWR).1], by first | rfl | rw [(unhide HWR).2.1], rfl, by omega, by have h9 := (unhide HWK).go hk1 (unhide HND); rw [unhide HUX, unhide HUY] at h9; exact h9, by rw [crn_turn (unhide HWK) (unhide HND) (unhide HWR).2.2, unhide HUX, unhide HUY]; exact (unhide R).1, by have := (unhide R).2.size; omega, (unhide H11f).below (unhide R).2 hq11, (unhide H6f).below (unhide R).2 (by omega), (unhide H0f).below (unhide R).2 (by omega), (unhide HBf).trans ((unhide R).2.mono (by omega))⟩
              | false =>
                have HND : Hid (nxd (Ab W H T z) ⟨px + wx d, py + wy d, d⟩ = d) := hide (by
                  unfold nxd
                  rw [if_neg (by rw [unhide HCL]; simp), if_neg (by rw [unhide HCR, hcr]; simp)])
                clear hcr
                go_wp2_with fail
                go_roundg (K - (k + 1))
                case measure => have := unhide HGK; omega
                case rel => exact ⟨k + 1, d, l, ux, uy, rfl, rfl, rfl, by omega, by have h9 := (unhide HWK).go hk1 (unhide HND); rw [unhide HUX, unhide HUY] at h9; exact h9, by rw [crn_stay (unhide HWK) (unhide HND)]; exact unhide HRf, unhide HQf, unhide H11f, unhide H6f, unhide H0f, unhide HBf⟩
end Go.Proofs.Ytjhldjojkaphkaa
