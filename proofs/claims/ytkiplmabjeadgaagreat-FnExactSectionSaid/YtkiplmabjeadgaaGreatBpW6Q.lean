/- The program asks whether a box lies beyond space. -/
import Derived.Test.YtkiplmabjeadgaaGreatBpW1Q
import Derived.Test.YtkiplmabjeadgaaGreatFfPQ
namespace Go.Proofs.YtkiplmabjeadgaaGreat
set_option maxRecDepth 100000
set_option maxHeartbeats 16000000
open Go.ChangeShapes Go.WideShapes Go.ChangeAt Go.RowKit
set_option linter.unusedVariables false
set_option linter.unusedSimpArgs false
def wbN (b : Bx) (n : Nat) (x y z : Int) : List Bx := (List.range n).map fun (t : Nat) => mvB b (((t : Int) + 1) * x) (((t : Int) + 1) * y) (((t : Int) + 1) * z)
theorem wbN_succ (b : Bx) (n : Nat) (x y z : Int) : wbN b (n + 1) x y z = wbN b n x y z ++ [mvB b (((n : Int) + 1) * x) (((n : Int) + 1) * y) (((n : Int) + 1) * z)] := by
 unfold wbN;rw [List.range_succ, List.map_append];rfl
theorem wbN_len (b : Bx) (n : Nat) (x y z : Int) : (wbN b n x y z).length = n := by simp [wbN]
def Bxs (l : List Bx) (w : World) (e : Ending) (w' : World) : Prop := (∃ u p n cu, e = .returned (.slice u n cu) ∧ l.length = n ∧ SlG bxc 6 w' u p 0 l ∧ (l ≠ [] → w.heap.size ≤ p)) ∧ Below w.heap.size w w'
theorem slG_one {w : World} {g : Nat} {b : Bx} (h : vb w g 41 (bxc b)) : SlG bxc 6 w (some ⟨g, 0, none⟩) g 0 [b] := by
 intro _;refine ⟨rfl, h.lt, fun i a ha j v hv => ?_⟩
 obtain ⟨rfl⟩ : i = 0 := by
  have := (List.getElem?_eq_some_iff.1 ha).1;simp at this;exact this
 cases ha
 simp only [Nat.zero_mul, Nat.zero_add];exact h.cell hv
theorem one_bxs {b : Bx} {w w' : World} {e : Ending} (h : (∃ g, e = .returned (.slice (some ⟨g, 0, none⟩) 1 1) ∧ w.heap.size ≤ g ∧ vb w' g 41 (bxc b)) ∧ Below w.heap.size w w') : Bxs [b] w e w' := by
 obtain ⟨⟨g, rfl, hg, hv⟩, hb⟩ := h;exact ⟨⟨_, g, 1, 1, rfl, rfl, slG_one hv, fun _ => hg⟩, hb⟩
theorem own_slB {α : Type} {c : α → List Value} {k : Nat} (hc : ∀ a, (c a).length = k) {w : World} {B t n cap : Nat} {u : Option Addr} {l : List α} (h : w.ownsRow B t k (.slice u n cap) n (flatG c l)) (hl : l.length = n) : ∃ p, SlG c k w u p 0 l ∧ (l ≠ [] → B ≤ p) := by
 by_cases h0 : n = 0
 ·have : l = [] := List.eq_nil_of_length_eq_zero (by omega)
  subst this;exact ⟨0, fun q => absurd rfl q, fun q => absurd rfl q⟩
 ·obtain ⟨g, rfl, hB, hg, hx⟩ := own_rowc hc h h0
  exact ⟨g, fun _ => ⟨rfl, hg, fun i a ha j v hv => by rw [Nat.zero_add]; exact hx i a ha j v hv⟩, fun _ => hB⟩
theorem oneB (b : Bx) : ∀ u ∈ bxc b, u.oneCell' = true := by simp [bxc, Value.oneCell']
theorem mul8 {a : Int} {n : Nat} (ha : -24 ≤ a ∧ a ≤ 24) (hn : n ≤ 8) : -1000 ≤ a * n ∧ a * n ≤ 1000 := by
 have h1 : a * (n : Int) ≥ -24 * (n : Int) := Int.mul_le_mul_of_nonneg_right ha.1 (by omega);have h2 : a * (n : Int) ≤ 24 * (n : Int) := Int.mul_le_mul_of_nonneg_right ha.2 (by omega);omega
theorem rowBoxes240_any (b : Bx) (ct : Nat) (x y z : Int) (w : World) (hct : ct ≤ 8) (hb : bxS 100000 b) (hx : -24 ≤ x ∧ x ≤ 24) (hy : -24 ≤ y ∧ y ≤ 24) (hz : -24 ≤ z ∧ z ≤ 24) :
  Calls Tryz.prog 251 #[.agg #[.iface 240 (bxv b), .int .i64 (ct : Int), .int .i64 x, .int .i64 y, .int .i64 z]] w (Bxs (wbN b ct x y z) w) := by
 have HTM := hide (fun (n : Nat) (hn : n ≤ 8) W => times_any x y z n W hx hy hz hn);have HWM := hide (fun (n : Nat) (hn : n ≤ 8) W => workMoved_any 240 b (x * (n : Int)) (y * (n : Int)) (z * (n : Int)) W (.inl rfl) hb (mul8 hx hn) (mul8 hy hn) (mul8 hz hn));clear hb hx hy hz;go_enter Tryz.func251, Tryz.ntmps251;go_wp2_with fail
 obtain ⟨W0, hW0⟩ : ∃ W, W = w.alloc (.cells #[.iface 240 (bxv b), .int .i64 (ct : Int), .int .i64 x, .int .i64 y, .int .i64 z] 243) := ⟨_, rfl⟩
 rw [← hW0];have hb0 : Below w.heap.size w W0 := by rw [hW0]; exact ba (bfl _ _) _
 have hv0 : vb W0 w.heap.size 243 [.iface 240 (bxv b), .int .i64 (ct : Int), .int .i64 x, .int .i64 y, .int .i64 z] := by rw [hW0]; exact vb_new w 243 _ _ rfl
 have HB0 := hide hb0;have HV0 := hide hv0;clear hW0 hb0 hv0
 go_loopw [3, 7] (fun s3 s7 W => ∃ (i : Nat) (v : Value), s7 = .int .i64 (i : Int) ∧ i ≤ ct ∧ s3 = v ∧ W.ownsRow (w.heap.size + 1) 41 6 v i (flatG bxc (wbN b i x y z)) ∧ vb W w.heap.size 243 [.iface 240 (bxv b), .int .i64 (ct : Int), .int .i64 x, .int .i64 y, .int .i64 z] ∧ Below w.heap.size w W) (fun _ s7 _ => ct - (intOf s7).toNat)
 case atStart => exact ⟨0, _, rfl, Nat.zero_le _, rfl, World.ownsRow_nil _ _ _ _, zu HV0, zu HB0⟩
 case round =>
  clear HV0 HB0;obtain ⟨i, v, rfl, hi, rfl, hr, hv, hb⟩ := hrel;have HR := hide hr;have HV := hide hv;have HB := hide hb;clear hr hv hb
  by_cases h : i < ct
  ·have iz : decide ((i : Int) < (ct : Int)) = true := dt (by omega)
   have i1 : (i : Int) < (ct : Int) := by omega
   have wi : IntKind.i64.wrap ((i : Int) + 1) = ((i + 1 : Nat) : Int) := (wrap_i (by omega) (by omega)).trans (by simp);have HI := hide h;have HWI := hide wi
   go_upto_region 5 with fail
   refine Go.Code.wp_mono (Only.to (fun _ _ h => h)) (wk5b (B := w.heap.size + 1) (m := i) (L := flatG bxc (wbN b i x y z)) (L1 := bxc (mvB b (x * ((i + 1 : Nat) : Int)) (y * ((i + 1 : Nat) : Int)) (z * ((i + 1 : Nat) : Int)))) HR (by have := (zu HV).lt; omega) (by omega) (hide rfl) (hide (oneB _)) (hide ((zu HV).cell (m := 0) rfl)) (hide ((zu HV).cell (m := 2) rfl)) (hide ((zu HV).cell (m := 3) rfl)) (hide ((zu HV).cell (m := 4) rfl)) HWI
    (hide fun X _ => zu HTM (i + 1) (by have := zu HI; omega) X) (hide fun X _ => zu HWM (i + 1) (by have := zu HI; omega) X) (hide fun X _ => (bBoxes240_any _ X).mono (by rintro e w' ⟨⟨g, rfl, _, hv⟩, hb⟩; exact ⟨⟨_, rfl, g, rfl, hv⟩, hb⟩)) ?_)
   intro vq rr W1 W9 hb1 hr9 hg9;have HR9 := hide hr9;have hkp : Below (w.heap.size + 1) wr W9 := (hb1.mono (by have := (zu HV).lt; omega)).grown hg9 (by have := hb1.size; have := (zu HV).lt; omega) (fun j hj => (own_ge (zu HR) j hj).1);have HK9 := hide hkp;clear hb1 hr9 hg9 hkp;have wi' := zu HWI;go_wp2_with fail;go_roundw
   case rel =>
    refine ⟨i + 1, rr, by simp, zu HI, rfl, ?_, (zu HV).below (zu HK9) (Nat.lt_succ_self _), (zu HB).trans ((zu HK9).mono (Nat.le_succ _))⟩;have h9 := zu HR9;rw [wbN_succ, flatG_append]
    have e1 : mvB b (x * ((i + 1 : Nat) : Int)) (y * ((i + 1 : Nat) : Int)) (z * ((i + 1 : Nat) : Int)) = mvB b (((i : Int) + 1) * x) (((i : Int) + 1) * y) (((i : Int) + 1) * z) := by
     rw [Int.mul_comm x, Int.mul_comm y, Int.mul_comm z, Int.natCast_add];rfl
    rw [e1] at h9
    simpa [flatG] using h9
   case measure => have := zu HI; simp only [intOf]; omega
  ·obtain rfl : i = ct := by omega
   have iz : decide ((i : Int) < (i : Int)) = false := df (by omega);obtain ⟨u, cap, rfl, _⟩ := own_form (zu HR);go_wp2_with fail;go_ret;obtain ⟨p, hp, hpB⟩ := own_slB bxc_len (zu HR) (wbN_len b i x y z);exact ⟨⟨u, p, i, cap, rfl, wbN_len b i x y z, hp, fun h => Nat.le_of_succ_le (hpB h)⟩, zu HB⟩
theorem rowBoxes241_any (b : Bx) (ct : Nat) (x y z : Int) (w : World) (hct : ct ≤ 8) (hb : bxS 100000 b) (hx : -24 ≤ x ∧ x ≤ 24) (hy : -24 ≤ y ∧ y ≤ 24) (hz : -24 ≤ z ∧ z ≤ 24) :
  Calls Tryz.prog 251 #[.agg #[.iface 241 (bxv b), .int .i64 (ct : Int), .int .i64 x, .int .i64 y, .int .i64 z]] w (Bxs (wbN b ct x y z) w) := by
 have HTM := hide (fun (n : Nat) (hn : n ≤ 8) W => times_any x y z n W hx hy hz hn);have HWM := hide (fun (n : Nat) (hn : n ≤ 8) W => workMoved_any 241 b (x * (n : Int)) (y * (n : Int)) (z * (n : Int)) W (.inr rfl) hb (mul8 hx hn) (mul8 hy hn) (mul8 hz hn));clear hb hx hy hz;go_enter Tryz.func251, Tryz.ntmps251;go_wp2_with fail
 obtain ⟨W0, hW0⟩ : ∃ W, W = w.alloc (.cells #[.iface 241 (bxv b), .int .i64 (ct : Int), .int .i64 x, .int .i64 y, .int .i64 z] 243) := ⟨_, rfl⟩
 rw [← hW0];have hb0 : Below w.heap.size w W0 := by rw [hW0]; exact ba (bfl _ _) _
 have hv0 : vb W0 w.heap.size 243 [.iface 241 (bxv b), .int .i64 (ct : Int), .int .i64 x, .int .i64 y, .int .i64 z] := by rw [hW0]; exact vb_new w 243 _ _ rfl
 have HB0 := hide hb0;have HV0 := hide hv0;clear hW0 hb0 hv0
 go_loopw [3, 7] (fun s3 s7 W => ∃ (i : Nat) (v : Value), s7 = .int .i64 (i : Int) ∧ i ≤ ct ∧ s3 = v ∧ W.ownsRow (w.heap.size + 1) 41 6 v i (flatG bxc (wbN b i x y z)) ∧ vb W w.heap.size 243 [.iface 241 (bxv b), .int .i64 (ct : Int), .int .i64 x, .int .i64 y, .int .i64 z] ∧ Below w.heap.size w W) (fun _ s7 _ => ct - (intOf s7).toNat)
 case atStart => exact ⟨0, _, rfl, Nat.zero_le _, rfl, World.ownsRow_nil _ _ _ _, zu HV0, zu HB0⟩
 case round =>
  clear HV0 HB0;obtain ⟨i, v, rfl, hi, rfl, hr, hv, hb⟩ := hrel;have HR := hide hr;have HV := hide hv;have HB := hide hb;clear hr hv hb
  by_cases h : i < ct
  ·have iz : decide ((i : Int) < (ct : Int)) = true := dt (by omega)
   have i1 : (i : Int) < (ct : Int) := by omega
   have wi : IntKind.i64.wrap ((i : Int) + 1) = ((i + 1 : Nat) : Int) := (wrap_i (by omega) (by omega)).trans (by simp);have HI := hide h;have HWI := hide wi
   go_upto_region 5 with fail
   refine Go.Code.wp_mono (Only.to (fun _ _ h => h)) (wk5p (B := w.heap.size + 1) (m := i) (L := flatG bxc (wbN b i x y z)) (L1 := bxc (mvB b (x * ((i + 1 : Nat) : Int)) (y * ((i + 1 : Nat) : Int)) (z * ((i + 1 : Nat) : Int)))) HR (by have := (zu HV).lt; omega) (by omega) (hide rfl) (hide (oneB _)) (hide ((zu HV).cell (m := 0) rfl)) (hide ((zu HV).cell (m := 2) rfl)) (hide ((zu HV).cell (m := 3) rfl)) (hide ((zu HV).cell (m := 4) rfl)) HWI
    (hide fun X _ => zu HTM (i + 1) (by have := zu HI; omega) X) (hide fun X _ => zu HWM (i + 1) (by have := zu HI; omega) X) (hide fun X _ => (bBoxes241_any _ X).mono (by rintro e w' ⟨⟨g, rfl, _, hv⟩, hb⟩; exact ⟨⟨_, rfl, g, rfl, hv⟩, hb⟩)) ?_)
   intro vq rr W1 W9 hb1 hr9 hg9;have HR9 := hide hr9;have hkp : Below (w.heap.size + 1) wr W9 := (hb1.mono (by have := (zu HV).lt; omega)).grown hg9 (by have := hb1.size; have := (zu HV).lt; omega) (fun j hj => (own_ge (zu HR) j hj).1);have HK9 := hide hkp;clear hb1 hr9 hg9 hkp;have wi' := zu HWI;go_wp2_with fail;go_roundw
   case rel =>
    refine ⟨i + 1, rr, by simp, zu HI, rfl, ?_, (zu HV).below (zu HK9) (Nat.lt_succ_self _), (zu HB).trans ((zu HK9).mono (Nat.le_succ _))⟩;have h9 := zu HR9;rw [wbN_succ, flatG_append]
    have e1 : mvB b (x * ((i + 1 : Nat) : Int)) (y * ((i + 1 : Nat) : Int)) (z * ((i + 1 : Nat) : Int)) = mvB b (((i : Int) + 1) * x) (((i : Int) + 1) * y) (((i : Int) + 1) * z) := by
     rw [Int.mul_comm x, Int.mul_comm y, Int.mul_comm z, Int.natCast_add];rfl
    rw [e1] at h9
    simpa [flatG] using h9
   case measure => have := zu HI; simp only [intOf]; omega
  ·obtain rfl : i = ct := by omega
   have iz : decide ((i : Int) < (i : Int)) = false := df (by omega);obtain ⟨u, cap, rfl, _⟩ := own_form (zu HR);go_wp2_with fail;go_ret;obtain ⟨p, hp, hpB⟩ := own_slB bxc_len (zu HR) (wbN_len b i x y z);exact ⟨⟨u, p, i, cap, rfl, wbN_len b i x y z, hp, fun h => Nat.le_of_succ_le (hpB h)⟩, zu HB⟩
inductive Wk where
 | free (t : Nat) (b : Bx)
 | row (t : Nat) (b : Bx) (n : Nat) (x y z : Int)
def Wk.t : Wk → Nat
 | .free t _ => t
 | .row t _ _ _ _ _ => t
def Wk.v : Wk → Value
 | .free t b => .iface t (bxv b)
 | .row t b n x y z => .iface 243 (.agg #[.iface t (bxv b), .int .i64 (n : Int), .int .i64 x, .int .i64 y, .int .i64 z])
def Wk.bx : Wk → List Bx
 | .free _ b => [b]
 | .row _ b n x y z => wbN b n x y z
def Wk.ok : Wk → Prop
 | .free t b => (t = 240 ∨ t = 241) ∧ bxS 100000 b
 | .row t b n x y z => (t = 240 ∨ t = 241) ∧ bxS 100000 b ∧ n ≤ 8 ∧ (-24 ≤ x ∧ x ≤ 24) ∧ (-24 ≤ y ∧ y ≤ 24) ∧ (-24 ≤ z ∧ z ≤ 24)
theorem Wk.one (k : Wk) : k.v.oneCell' = true := by cases k <;> rfl
theorem Wk.boxes {k : Wk} (h : k.ok) : ∃ t u f, k.v = .iface t u ∧ (f = 247 ∨ f = 249 ∨ f = 251) ∧ (∀ W : World, (method 410 t u "loop.example/g00056/impl.boxes").run Tryz.prog W = .ok (f, u) W) ∧ ∀ w, Calls Tryz.prog f #[u] w (Bxs k.bx w) := by
 cases k with
 | free t b =>
  obtain ⟨rfl | rfl, hb⟩ := h
  ·exact ⟨240, bxv b, 247, rfl, .inl rfl, me247 _, fun w => (bBoxes240_any b w).mono fun e w' h => one_bxs h⟩
  ·exact ⟨241, bxv b, 249, rfl, .inr (.inl rfl), me249 _, fun w => (bBoxes241_any b w).mono fun e w' h => one_bxs h⟩
 | row t b n x y z =>
  obtain ⟨rfl | rfl, hb, hn, hx, hy, hz⟩ := h
  ·exact ⟨243, _, 251, rfl, .inr (.inr rfl), me251 _, fun w => rowBoxes240_any b n x y z w hn hb hx hy hz⟩
  ·exact ⟨243, _, 251, rfl, .inr (.inr rfl), me251 _, fun w => rowBoxes241_any b n x y z w hn hb hx hy hz⟩
theorem fillsB_any (b : Bx) (w : World) : Calls Tryz.prog 157 #[.iface 240 (bxv b)] w fun e w' => e = .returned (.bool true) ∧ Below w.heap.size w w' := by
 have h1 := fi240;obtain ⟨b0, b1, b2, b3, b4, b5⟩ := b;unfold bxv;simp only;go_enter Tryz.func157, Tryz.ntmps157;go_wp2_with fail;go_ret;refine ⟨rfl, ?_⟩
 repeat (first | exact bfl _ _ | refine Below.setCell ?_ (Nat.le_refl _) _ | refine Below.setCell ?_ (by simp) _ | refine ba ?_ _)
theorem fillsP_any (b : Bx) (w : World) : Calls Tryz.prog 157 #[.iface 241 (bxv b)] w fun e w' => e = .returned (.bool false) ∧ Below w.heap.size w w' := by
 have h1 := fi241;have h2 := fr241
 obtain ⟨bv, hv⟩ : ∃ q, bxv b = q := ⟨_, rfl⟩
 rw [hv];go_enter Tryz.func157, Tryz.ntmps157;go_wp2_with fail;go_ret;refine ⟨rfl, ?_⟩
 repeat (first | exact bfl _ _ | refine Below.setCell ?_ (Nat.le_refl _) _ | refine Below.setCell ?_ (by simp) _ | refine ba ?_ _)
theorem fillsR_any (t : Nat) (r : Bool) (b : Bx) (n : Nat) (x y z : Int) (w : World) (h : ∀ w, Calls Tryz.prog 157 #[.iface t (bxv b)] w fun e w' => e = .returned (.bool r) ∧ Below w.heap.size w w') :
  Calls Tryz.prog 157 #[.iface 243 (.agg #[.iface t (bxv b), .int .i64 (n : Int), .int .i64 x, .int .i64 y, .int .i64 z])] w fun e w' => e = .returned (.bool r) ∧ Below w.heap.size w w' := by
 have h1 := fi243;have h2 := fr243;have HF := hide h;clear h
 obtain ⟨bv, hv⟩ : ∃ q, bxv b = q := ⟨_, rfl⟩
 rw [hv] at HF ⊢;go_enter Tryz.func157, Tryz.ntmps157;go_wp2_with fail;refine (zu HF _).mono ?_;rintro e W ⟨rfl, hb⟩;have HB := hide hb;clear hb;go_wp2_with fail;go_ret;refine ⟨rfl, bc ?_ (zu HB)⟩
 repeat (first | exact bfl _ _ | refine Below.setCell ?_ (Nat.le_refl _) _ | refine Below.setCell ?_ (by simp) _ | refine ba ?_ _)
theorem fills_any (k : Wk) (hk : k.ok) (w : World) : Calls Tryz.prog 157 #[k.v] w fun e w' => e = .returned (.bool (k.t == 240)) ∧ Below w.heap.size w w' := by
 cases k with
 | free t b =>
  obtain ⟨rfl | rfl, hb⟩ := hk
  ·exact fillsB_any b w
  ·exact fillsP_any b w
 | row t b n x y z =>
  obtain ⟨rfl | rfl, _⟩ := hk
  ·exact fillsR_any 240 true b n x y z w fun w => fillsB_any b w
  ·exact fillsR_any 241 false b n x y z w fun w => fillsP_any b w
theorem fit_ok (b : Bx) : fitB 0 24 b.x0 b.y0 b.z0 b.x1 b.y1 b.z1 = bxOk b := by
 unfold fitB bxOk axOk;rw [Bool.eq_iff_iff];simp;omega
theorem beyond_any (b : Bx) (w : World) : Calls Tryz.prog 156 #[bxv b] w fun e w' => e = .returned (.bool (!bxOk b)) ∧ Below w.heap.size w w' := by
 have HF := hide (fun W => fits_any 0 24 b.x0 b.y0 b.z0 b.x1 b.y1 b.z1 W);rw [fit_ok] at HF
 obtain ⟨r, hr⟩ : ∃ r, bxOk b = r := ⟨_, rfl⟩
 rw [hr] at HF ⊢;clear hr;obtain ⟨x0, y0, z0, x1, y1, z1⟩ := b;unfold bxv;simp only at HF ⊢;go_enter Tryz.func156, Tryz.ntmps156;go_wp2_with fail;refine (zu HF _).mono ?_;rintro e W ⟨rfl, hb⟩;have HB := hide hb;clear hb;go_wp2_with fail;go_ret;exact ⟨rfl, bc (ba (bfl _ _) _) (zu HB)⟩
theorem indexF_any (l : List Bx) (n cu p po : Nat) (u : Option Addr) (w : World) (hl : l.length = n) (hn : n ≤ 100000) (hu : SlG bxc 6 w u p po l) :
  Calls Tryz.prog 178 #[.slice u n cu, .func (.func 156) #[] #[]] w fun e w' => (∃ r : Int, e = .returned (.int .i64 r) ∧ decide (0 ≤ r) = l.any fun b => !bxOk b) ∧ Below w.heap.size w w' := by
 have HU := hide (fun W (h : Below w.heap.size w W) => hu.bel h);have HL := hide hl;clear hu hl;go_enter Tryz.func178, Tryz.ntmps178;go_wp2_with fail
 go_loopw [8] (fun s8 W => ∃ i : Nat, s8 = .int .i64 (i : Int) ∧ i ≤ n ∧ (∀ b ∈ l.take i, bxOk b = true) ∧ Below w.heap.size w W) (fun s8 _ => n - (intOf s8).toNat)
 case atStart => exact ⟨0, rfl, Nat.zero_le _, fun b hb => by simp at hb, bfl _ _⟩
 case round =>
  obtain ⟨i, rfl, hi, hok, hb⟩ := hrel;have HB := hide hb;have HOK := hide hok;clear hok
  by_cases h : i < n
  ·have iz : decide ((i : Int) < (n : Int)) = true := dt (by omega)
   have i1 : (i : Int) < (n : Int) := by omega
   have i0 : (0 : Int) ≤ (i : Int) := Int.natCast_nonneg _;have wi : IntKind.i64.wrap ((i : Int) + 1) = ((i + 1 : Nat) : Int) := (wrap_i (by omega) (by omega)).trans (by simp);obtain ⟨b, hx⟩ := get_some (zu HL) h;have HX := hide hx;have HBY := hide (fun W => beyond_any b W);have HI := hide h
   obtain ⟨r, hr⟩ : ∃ r, bxOk b = r := ⟨_, rfl⟩
   rw [hr] at HBY;have HR := hide hr;obtain ⟨c0, c1, c2, c3, c4, c5⟩ := b;obtain ⟨rfl, hpw, hc⟩ := (zu HU _ hb).at hx;have x0 := hc 0 _ rfl;have x1 := hc 1 _ rfl;have x2 := hc 2 _ rfl;have x3 := hc 3 _ rfl;have x4 := hc 4 _ rfl;have x5 := hc 5 _ rfl;rw [Nat.add_zero] at x0;unfold bxv at HBY;clear hx hc hr hb;go_wp2_with fail;refine (zu HBY _).mono ?_;rintro e W4 ⟨rfl, hb4⟩;have HB4 := hide (bc (zu HB) hb4);clear hb4 x0 x1 x2 x3 x4 x5
   cases r with
   | true =>
    go_wp2_with fail;go_roundw
    case rel =>
     refine ⟨i + 1, by simp, zu HI, fun q hq => ?_, zu HB4⟩;rw [List.take_add_one, zu HX, List.mem_append] at hq
     rcases hq with hq | hq
     ·exact zu HOK q hq
     ·simp at hq
      rw [hq];exact zu HR
    case measure => have := zu HI; simp only [intOf]; omega
   | false =>
    go_wp2_with fail;go_ret;refine ⟨⟨_, rfl, ?_⟩, zu HB4⟩;rw [dt (Int.natCast_nonneg _)];symm;rw [List.any_eq_true];exact ⟨_, List.mem_of_getElem? (zu HX), by rw [zu HR]; rfl⟩
  ·obtain rfl : i = n := by omega
   have iz : decide ((i : Int) < (i : Int)) = false := df (by omega);go_wp2_with fail;go_ret;refine ⟨⟨_, rfl, ?_⟩, zu HB⟩;have h9 := zu HOK;rw [List.take_of_length_le (Nat.le_of_eq (zu HL))] at h9;symm
   show (l.any fun b => !bxOk b) = false
   rw [List.any_eq_false];intro b hb;rw [h9 b hb];simp
theorem containsF_any (l : List Bx) (n cu p po : Nat) (u : Option Addr) (w : World) (hl : l.length = n) (hn : n ≤ 100000) (hu : SlG bxc 6 w u p po l) :
  Calls Tryz.prog 155 #[.slice u n cu, .func (.func 156) #[] #[]] w fun e w' => e = .returned (.bool (l.any fun b => !bxOk b)) ∧ Below w.heap.size w w' := by
 have HI := hide (fun W (h : Below w.heap.size w W) => indexF_any l n cu p po u W hl hn (hu.bel h))
 obtain ⟨r, hr⟩ : ∃ r, (l.any fun b => !bxOk b) = r := ⟨_, rfl⟩
 rw [hr] at HI ⊢;clear hr hu;go_enter Tryz.func155, Tryz.ntmps155;go_wp2_with fail;refine (zu HI _ (bfl _ _)).mono ?_;rintro e W ⟨⟨q, rfl, hq⟩, hb⟩;have HB := hide hb;have HQ := hide hq;clear hb hq;go_wp2_with fail;go_ret;exact ⟨by rw [← zu HQ]; rfl, zu HB⟩
end Go.Proofs.YtkiplmabjeadgaaGreat
