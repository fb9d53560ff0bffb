/-
  The smallest circle told by pairs and triples: the program's way (on the rim) and the model's (the hull's corners) give one answer. Small contracts for circles: apart, l09Circle, l09Sharp. The model's small parts for circles: l09Circle, l09Sharp, l09Pair. l09Has: whether a circle has all points of a row.
-/
import Derived.Test.YtdcecfgmfmpeeaaHuExtq
import Derived.Test.YtdcecfgmfmpeeaaZnrq
import Derived.Test.YtdcecfgmfmpeeaaOrder2q
namespace Go.Proofs.Ytdcecfgmfmpeeaa
set_option linter.unusedVariables false
set_option linter.unusedSimpArgs false
theorem md_hull {P S : List Pt} {c : Ci} (h : Md P [] S c) : Md (hullM (srtU P)) [] S c := by
 refine ⟨⟨fun q hq => h.fea.has q (hull_in hq), fun r hr => (nomatch hr)⟩, fun s hs => ?_, h.on, h.cer⟩
 exact rim_corner (srtU_facts P).1 (fun q hq => h.fea.has q (((srtU_facts P).2 q).1 hq)) (((srtU_facts P).2 s).2 (h.sub s hs)) (h.on s hs)
theorem rim_hull {P S : List Pt} {c : Ic} {k : Ci} {p : Pt} (hI : Is c k) (h : Md P [] S k) (hp : p ∈ P) (h0 : apt c p = c.N) : p ∈ hullM (srtU P) :=
 rim_corner (srtU_facts P).1 (fun q hq => h.fea.has q (((srtU_facts P).2 q).1 hq)) (((srtU_facts P).2 p).2 hp) ((hI.onr p).2 h0)
theorem pair_cer {a b : Pt} {k : Ci} (hx : k.x * 2 = (a.1 : Rat) + (b.1 : Rat)) (hy : k.y * 2 = (a.2 : Rat) + (b.2 : Rat)) : Cer [a, b] [] k := by
 intro v w e hS _
 have h1 := hS a (by simp)
 have h2 := hS b (by simp)
 have e0 : (v * k.x + w * k.y + e) * 2 = (v * (a.1 : Rat) + w * (a.2 : Rat) + e) + (v * (b.1 : Rat) + w * (b.2 : Rat) + e) := by
  have e1 : (v * k.x + w * k.y + e) * 2 = v * (k.x * 2) + w * (k.y * 2) + 2 * e := by grind
  rw [e1, hx, hy]
  grind
 grind
theorem pair_iff {P S : List Pt} {c : Ic} {k : Ci} {a b : Pt} (hI : Is c k) (h : Md P [] S k) (ha : a ∈ hullM (srtU P)) (hb : b ∈ hullM (srtU P)) :
  (∀ q ∈ hullM (srtU P), apt (thr [a, b]) q ≤ (thr [a, b]).N) ↔ (apt c a = c.N ∧ apt c b = c.N ∧ thr [a, b] = c) := by
 obtain ⟨k2, hI2, hM2, hx, hy⟩ := thr2 a b
 have on : ∀ s ∈ [a, b], pw k2 s = 0 := hM2.fea.rim
 constructor
 ·intro hh
  have hm : Md (hullM (srtU P)) [] [a, b] k2 := ⟨⟨fun q hq => (hI2.inn q).2 (hh q hq), fun r hr => (nomatch hr)⟩, fun s hs => by
   rcases List.mem_cons.1 hs with h1 | h1
   ·rw [h1]; exact ha
   ·rw [List.mem_singleton.1 h1]; exact hb, on, pair_cer hx hy⟩
  have e := (md_hull h).uniq hm
  rw [e] at hI2 on
  exact ⟨(hI.onr a).1 (on a (by simp)), (hI.onr b).1 (on b (by simp)), hI2.uniq hI⟩
 ·rintro ⟨_, _, e⟩ q hq
  rw [e]
  exact (hI.inn q).1 (h.fea.has q (hull_in hq))
def tM (a b d : Pt) : Ic := cir (redM (sq a * (b.2 - d.2) + sq b * (d.2 - a.2) + sq d * (a.2 - b.2)) (sq a * (d.1 - b.1) + sq b * (a.1 - d.1) + sq d * (b.1 - a.1)) (2 * side a b d)) a
theorem tM_is {a b d : Pt} (hs : side a b d ≠ 0) : ∃ k, Is (tM a b d) k ∧ pw k a = 0 ∧ pw k b = 0 ∧ pw k d = 0 := by
 have hT : (((2 * side a b d : Int)) : Rat) = 2 * (((b.1 : Rat) - a.1) * ((d.2 : Rat) - a.2) - ((b.2 : Rat) - a.2) * ((d.1 : Rat) - a.1)) := by
  rw [Rat.intCast_mul, sd_q]; rfl
 have hT0 : (((2 * side a b d : Int)) : Rat) ≠ 0 := by
  intro h
  have : (2 * side a b d : Int) = 0 := Rat.intCast_inj.1 (by simpa using h)
  omega
 have core : ∃ k : Ci, Is (tM a b d) k ∧ k.x * (((2 * side a b d : Int)) : Rat) = (((sq a * (b.2 - d.2) + sq b * (d.2 - a.2) + sq d * (a.2 - b.2) : Int)) : Rat) ∧ k.y * (((2 * side a b d : Int)) : Rat) = (((sq a * (d.1 - b.1) + sq b * (a.1 - d.1) + sq d * (b.1 - a.1) : Int)) : Rat) ∧ pw k a = 0 := by
  unfold tM redM
  split
  ·rename_i hneg
   obtain ⟨k, hI, hx, hy, hp⟩ := cir_is (-(sq a * (b.2 - d.2) + sq b * (d.2 - a.2) + sq d * (a.2 - b.2))) (-(sq a * (d.1 - b.1) + sq b * (a.1 - d.1) + sq d * (b.1 - a.1))) (-(2 * side a b d)) a (by omega)
   rw [Rat.intCast_neg, Rat.intCast_neg] at hx hy
   exact ⟨k, hI, by grind, by grind, hp⟩
  ·exact cir_is _ _ _ a (by omega)
 obtain ⟨k, hI, hx, hy, hp⟩ := core
 refine ⟨k, hI, hp, ?_, ?_⟩
 all_goals
  unfold sq at hx hy
  simp only [Rat.intCast_sub, Rat.intCast_add, Rat.intCast_mul] at hx hy
  rw [← Rat.intCast_mul] at hx hy
  generalize (((2 * side a b d : Int)) : Rat) = W at *
 ·have e : (pw k b - pw k a) * W = 0 := by
   unfold pw
   grind
  rw [hp] at e
  have := (Rat.mul_eq_zero.1 e).resolve_right hT0
  grind
 ·have e : (pw k d - pw k a) * W = 0 := by
   unfold pw
   grind
  rw [hp] at e
  have := (Rat.mul_eq_zero.1 e).resolve_right hT0
  grind
theorem mem3 {a b d : Pt} {Q : Pt → Prop} (ha : Q a) (hb : Q b) (hd : Q d) : ∀ r ∈ [a, b, d], Q r := by
 intro r hr
 rcases List.mem_cons.1 hr with h | h
 ·rw [h]; exact ha
 ·rcases List.mem_cons.1 h with h | h
  ·rw [h]; exact hb
  ·rw [List.mem_singleton.1 h]; exact hd
theorem tri_iff {P S : List Pt} {c : Ic} {k : Ci} {a b d : Pt} (hI : Is c k) (h : Md P [] S k) (ha : a ∈ hullM (srtU P)) (hb : b ∈ hullM (srtU P)) (hd : d ∈ hullM (srtU P)) (ab : a ≠ b) (ad : a ≠ d) (bd : b ≠ d) :
  (side a b d ≠ 0 ∧ Sharp a b d ∧ ∀ q ∈ hullM (srtU P), apt (tM a b d) q ≤ (tM a b d).N) ↔ (apt c a = c.N ∧ apt c b = c.N ∧ apt c d = c.N ∧ Sharp a b d) := by
 constructor
 ·rintro ⟨hs, hsh, hh⟩
  obtain ⟨k2, hI2, pa, pb, pd⟩ := tM_is hs
  have hm : Md (hullM (srtU P)) [] [a, b, d] k2 := ⟨⟨fun q hq => (hI2.inn q).2 (hh q hq), fun r hr => (nomatch hr)⟩, mem3 ha hb hd, mem3 pa pb pd, sharp_cer pa pb pd hs hsh⟩
  have e := (md_hull h).uniq hm
  rw [e] at pa pb pd
  exact ⟨(hI.onr a).1 pa, (hI.onr b).1 pb, (hI.onr d).1 pd, hsh⟩
 ·rintro ⟨pa, pb, pd, hsh⟩
  have qa := (hI.onr a).2 pa
  have qb := (hI.onr b).2 pb
  have qd := (hI.onr d).2 pd
  have hs := three_side qa qb qd ab ad bd
  obtain ⟨k2, hI2, ra, rb, rd⟩ := tM_is hs
  have e : k2 = k := three_one hs (mem3 qa qb qd) (mem3 ra rb rd)
  rw [e] at hI2
  have ec := hI2.uniq hI
  refine ⟨hs, hsh, fun q hq => ?_⟩
  rw [ec]
  exact (hI.inn q).1 (h.fea.has q (hull_in hq))
theorem tri_c {P S : List Pt} {c : Ic} {k : Ci} {a b d : Pt} (hI : Is c k) (ab : a ≠ b) (ad : a ≠ d) (bd : b ≠ d) (pa : apt c a = c.N) (pb : apt c b = c.N) (pd : apt c d = c.N) : tM a b d = c := by
 have qa := (hI.onr a).2 pa
 have qb := (hI.onr b).2 pb
 have qd := (hI.onr d).2 pd
 have hs := three_side qa qb qd ab ad bd
 obtain ⟨k2, hI2, ra, rb, rd⟩ := tM_is hs
 have e : k2 = k := three_one hs (mem3 qa qb qd) (mem3 ra rb rd)
 rw [e] at hI2
 exact hI2.uniq hI
def fp (Q : Nat → Nat → Bool) : List Nat → Option (Nat × Nat)
 | [] => none
 | a :: L => match L.find? (Q a) with
  | some b => some (a, b)
  | none => fp Q L
def ft (Q : Nat → Nat → Nat → Bool) : List Nat → Option (Nat × Nat × Nat)
 | [] => none
 | a :: L => match fp (Q a) L with
  | some (b, d) => some (a, b, d)
  | none => ft Q L
theorem find_congr {α : Type} {p q : α → Bool} : ∀ {L : List α}, (∀ x ∈ L, p x = q x) → L.find? p = L.find? q := by
 intro L
 induction L with
 | nil => intro _; rfl
 | cons a L ih =>
  intro h
  rw [List.find?_cons, List.find?_cons, h a (by simp), ih (fun x hx => h x (by simp [hx]))]
theorem fp_congr {Q Q' : Nat → Nat → Bool} : ∀ {L : List Nat}, L.Pairwise (fun i j => Q i j = Q' i j) → fp Q L = fp Q' L := by
 intro L
 induction L with
 | nil => intro _; rfl
 | cons a L ih =>
  intro h
  have h' := List.pairwise_cons.1 h
  unfold fp
  rw [find_congr (fun x hx => h'.1 x hx), ih h'.2]
theorem find_filter' {p B : Nat → Bool} (h : ∀ x, p x = true → B x = true) (L : List Nat) : (L.filter B).find? p = L.find? p := by
 induction L with
 | nil => rfl
 | cons a L ih =>
  by_cases hb : B a = true
  ·rw [List.filter_cons_of_pos hb, List.find?_cons, List.find?_cons, ih]
  ·rw [List.filter_cons_of_neg hb, List.find?_cons, ih]
   have : p a = false := by
    cases hp : p a with
    | false => rfl
    | true => exact absurd (h a hp) hb
   rw [this]
theorem fp_filter {Q : Nat → Nat → Bool} {B : Nat → Bool} (h : ∀ i j, Q i j = true → B i = true ∧ B j = true) (L : List Nat) : fp Q (L.filter B) = fp Q L := by
 induction L with
 | nil => rfl
 | cons a L ih =>
  by_cases hb : B a = true
  ·rw [List.filter_cons_of_pos hb]
   unfold fp
   rw [find_filter' (fun x hx => (h a x hx).2), ih]
  ·rw [List.filter_cons_of_neg hb, ih]
   have hn : L.find? (Q a) = none := by
    rw [List.find?_eq_none]
    intro x _ hx
    exact hb (h a x hx).1
   conv => rhs; unfold fp
   rw [hn]
theorem fp_none {Q : Nat → Nat → Bool} : ∀ {L : List Nat}, fp Q L = none → L.Pairwise (fun i j => Q i j = false) := by
 intro L
 induction L with
 | nil => intro _; exact List.Pairwise.nil
 | cons a L ih =>
  intro h
  unfold fp at h
  cases hf : L.find? (Q a) with
  | some b => rw [hf] at h; cases h
  | none =>
   rw [hf] at h
   refine List.pairwise_cons.2 ⟨fun x hx => ?_, ih h⟩
   have := List.find?_eq_none.1 hf x hx
   simpa using this
theorem ft_filter {Q : Nat → Nat → Nat → Bool} {B : Nat → Bool} (h : ∀ i j l, Q i j l = true → B i = true ∧ B j = true ∧ B l = true) (L : List Nat) : ft Q (L.filter B) = ft Q L := by
 induction L with
 | nil => rfl
 | cons a L ih =>
  by_cases hb : B a = true
  ·rw [List.filter_cons_of_pos hb]
   unfold ft
   rw [fp_filter (fun i j hij => (h a i j hij).2), ih]
  ·rw [List.filter_cons_of_neg hb, ih]
   have hn : fp (Q a) L = none := by
    have e : fp (Q a) L = fp (fun _ _ => false) L := fp_congr (List.pairwise_of_forall (fun i j => by
     cases hq : Q a i j with
     | false => rfl
     | true => exact absurd (h a i j hq).1 hb))
    rw [e]
    clear ih e
    induction L with
    | nil => rfl
    | cons x L ih2 =>
     unfold fp
     rw [show L.find? (fun _ => false) = none by rw [List.find?_eq_none]; intro _ _ h; cases h]
     exact ih2
   conv => rhs; unfold ft
   rw [hn]
theorem ft_congr {Q Q' : Nat → Nat → Nat → Bool} : ∀ {L : List Nat}, L.Pairwise (· < ·) → (∀ i ∈ L, ∀ j ∈ L, ∀ l ∈ L, i < j → j < l → Q i j l = Q' i j l) → ft Q L = ft Q' L := by
 intro L
 induction L with
 | nil => intro _ _; rfl
 | cons a L ih =>
  intro hs h
  have h' := List.pairwise_cons.1 hs
  unfold ft
  have e : fp (Q a) L = fp (Q' a) L := fp_congr (by
   refine List.Pairwise.imp_of_mem ?_ h'.2
   intro x y hx hy hxy
   exact h a (by simp) x (by simp [hx]) y (by simp [hy]) (h'.1 x hx) hxy)
  rw [e, ih h'.2 (fun i hi j hj l hl => h i (by simp [hi]) j (by simp [hj]) l (by simp [hl]))]
theorem ft_none {Q : Nat → Nat → Nat → Bool} : ∀ {L : List Nat}, L.Pairwise (· < ·) → ft Q L = none → ∀ i ∈ L, ∀ j ∈ L, ∀ l ∈ L, i < j → j < l → Q i j l = false := by
 intro L
 induction L with
 | nil => intro _ _ i hi; cases hi
 | cons a L ih =>
  intro hs h i hi j hj l hl hij hjl
  have h' := List.pairwise_cons.1 hs
  unfold ft at h
  cases hf : fp (Q a) L with
  | some b => rw [hf] at h; cases h
  | none =>
   rw [hf] at h
   have gt : ∀ x ∈ a :: L, a ≤ x := fun x hx => by
    rcases List.mem_cons.1 hx with e | e
    ·omega
    ·have := h'.1 x e; omega
   have hj' : j ∈ L := by
    rcases List.mem_cons.1 hj with e | e
    ·have := gt i hi; omega
    ·exact e
   have hl' : l ∈ L := by
    rcases List.mem_cons.1 hl with e | e
    ·have := gt i hi; omega
    ·exact e
   rcases List.mem_cons.1 hi with e | e
   ·have hp := fp_none hf
    rw [e]
    have two : ∀ {M : List Nat}, M.Pairwise (· < ·) → M.Pairwise (fun i j => Q a i j = false) → ∀ x ∈ M, ∀ y ∈ M, x < y → Q a x y = false := by
     intro M
     induction M with
     | nil => intro _ _ x hx; cases hx
     | cons m M ihm =>
      intro s1 s2 x hx y hy hxy
      have t1 := List.pairwise_cons.1 s1
      have t2 := List.pairwise_cons.1 s2
      rcases List.mem_cons.1 hy with ey | ey
      ·rcases List.mem_cons.1 hx with ex | ex
       ·omega
       ·have := t1.1 x ex; omega
      ·rcases List.mem_cons.1 hx with ex | ex
       ·rw [ex]; exact t2.1 y ey
       ·exact ihm t1.2 t2.2 x ex y ey hxy
    exact two h'.2 hp j hj' l hl' hjl
   ·exact ih h'.2 h i e j hj' l hl' hij hjl
open Go.ChangeShapes Go.WideShapes Go.ChangeAt Go.RowKit
def icV (c : Ic) : Value := .agg #[.int .i64 c.X, .int .i64 c.Y, .int .i64 c.D, .int .i64 c.N]
structure NrS (s : Sp) : Prop where
 x1 : -400000000 ≤ s.1
 x2 : s.1 ≤ 400000000
 y1 : -400000000 ≤ s.2.1
 y2 : s.2.1 ≤ 400000000
 d1 : 0 < s.2.2
 d2 : s.2.2 ≤ 640000
def Nr1 (p : Pt) : Prop := -200 ≤ p.1 ∧ p.1 ≤ 200 ∧ -200 ≤ p.2 ∧ p.2 ≤ 200
theorem way_bd {s : Sp} {p : Pt} (h : NrS s) (hp : Nr1 p) : (-128000000 ≤ p.1 * s.2.2 ∧ p.1 * s.2.2 ≤ 128000000) ∧ (-128000000 ≤ p.2 * s.2.2 ∧ p.2 * s.2.2 ≤ 128000000) := by
 obtain ⟨h1, h2, h3, h4⟩ := hp
 have := h.d1
 have := h.d2
 have a := mulB (x := p.1) (y := s.2.2) (a := 200) (b := 640000) (by omega) (by omega) (by omega) (by omega)
 have b := mulB (x := p.2) (y := s.2.2) (a := 200) (b := 640000) (by omega) (by omega) (by omega) (by omega)
 constructor <;> constructor <;> omega
theorem alongW (a1 a2 b1 b2 : Int) (w : World) (ha : -600000000 ≤ a1 ∧ a1 ≤ 600000000 ∧ -600000000 ≤ a2 ∧ a2 ≤ 600000000) (hb : -600000000 ≤ b1 ∧ b1 ≤ 600000000 ∧ -600000000 ≤ b2 ∧ b2 ≤ 600000000) :
  Calls Try.prog 54 #[.agg #[.int .i64 a1, .int .i64 a2], .agg #[.int .i64 b1, .int .i64 b2]] w fun e w' => e = .returned (.int .i64 (a1 * b1 + a2 * b2)) ∧ Below w.heap.size w w' := by
 have h1 := mulB (x := a1) (y := b1) (a := 600000000) (b := 600000000) (by omega) (by omega) (by omega) (by omega)
 have h2 := mulB (x := a2) (y := b2) (a := 600000000) (b := 600000000) (by omega) (by omega) (by omega) (by omega)
 have w3 : IntKind.i64.wrap (a1 * b1) = a1 * b1 := wr64 (by omega) (by omega)
 have w4 : IntKind.i64.wrap (a2 * b2) = a2 * b2 := wr64 (by omega) (by omega)
 have w5 : IntKind.i64.wrap (a1 * b1 + a2 * b2) = a1 * b1 + a2 * b2 := wr64 (by omega) (by omega)
 go_enter Try.func54, Try.ntmps54
 go_wp2_with fail
 go_ret
 exact ⟨rfl, ba (ba (Below.refl _ _) _) _⟩
theorem apart_core (X Y D N p1 p2 u v : Int) (w : World) (HU : Hid (u = p1 * D - X)) (HV : Hid (v = p2 * D - Y)) (h1 : IntKind.i64.wrap (p1 * D) = p1 * D) (h2 : IntKind.i64.wrap (p2 * D) = p2 * D) (h3 : IntKind.i64.wrap (p1 * D - X) = u) (h4 : IntKind.i64.wrap (p2 * D - Y) = v)
  (HA : Hid (∀ W : World, Calls Try.prog 54 #[.agg #[.int .i64 u, .int .i64 v], .agg #[.int .i64 u, .int .i64 v]] W fun e w' => e = .returned (.int .i64 (u * u + v * v)) ∧ Below W.heap.size W w')) :
  Calls Try.prog 66 #[.agg #[.int .i64 X, .int .i64 Y, .int .i64 D, .int .i64 N], .agg #[.int .i64 p1, .int .i64 p2]] w fun e w' => e = .returned (.int .i64 (u * u + v * v)) ∧ Below w.heap.size w w' := by
 go_enter Try.func66, Try.ntmps66
 go_wp2_with fail
 refine (zu HA _).mono ?_
 rintro e W1 ⟨rfl, hb1⟩
 go_wp2_with fail
 go_ret
 exact ⟨rfl, bc (ba (ba (ba (Below.refl _ _) _) _) _) hb1⟩
theorem apart_any (c : Ic) (p : Pt) (w : World) (h : NrS (c.X, c.Y, c.D)) (hp : Nr1 p) :
  Calls Try.prog 66 #[icV c, .agg #[.int .i64 p.1, .int .i64 p.2]] w fun e w' => e = .returned (.int .i64 (apt c p)) ∧ Below w.heap.size w w' := by
 have b := way_bd h hp
 have := h.x1
 have := h.x2
 have := h.y1
 have := h.y2
 simp only at *
 exact apart_core c.X c.Y c.D c.N p.1 p.2 (p.1 * c.D - c.X) (p.2 * c.D - c.Y) w (hide rfl) (hide rfl) (wr64 (by omega) (by omega)) (wr64 (by omega) (by omega)) (wr64 (by omega) (by omega)) (wr64 (by omega) (by omega)) (hide fun W => alongW _ _ _ _ W (by omega) (by omega))
def rgV (n a b d : Int) (c : Ic) : Value := .agg #[.int .i64 n, .int .i64 a, .int .i64 b, .int .i64 d, .int .i64 c.X, .int .i64 c.Y, .int .i64 c.D, .int .i64 c.N]
set_option maxHeartbeats 2000000 in
set_option maxRecDepth 100000 in
theorem circM_core (x y d p1 p2 X Y D u v uu vv n : Int) (w : World) (h1 : IntKind.i64.wrap (p1 * D) = p1 * D) (h2 : IntKind.i64.wrap (p2 * D) = p2 * D) (h3 : IntKind.i64.wrap (p1 * D - X) = u) (h4 : IntKind.i64.wrap (p2 * D - Y) = v)
  (h5 : IntKind.i64.wrap (u * u) = uu) (h6 : IntKind.i64.wrap (v * v) = vv) (h7 : IntKind.i64.wrap (uu + vv) = n)
  (HS : Hid (∀ W : World, Calls Try.prog 70 #[.int .i64 x, .int .i64 y, .int .i64 d] W fun e w' => e = .returned (.agg #[.int .i64 X, .int .i64 Y, .int .i64 D]) ∧ Below W.heap.size W w')) :
  Calls Try.prog 42 #[.int .i64 x, .int .i64 y, .int .i64 d, .agg #[.int .i64 p1, .int .i64 p2]] w fun e w' => e = .returned (.agg #[.int .i64 0, .int .i64 0, .int .i64 0, .int .i64 0, .int .i64 X, .int .i64 Y, .int .i64 D, .int .i64 n]) ∧ Below w.heap.size w w' := by
 have HB0 : Hid (Below w.heap.size w ((w.alloc (.cells #[.int .i64 p1, .int .i64 p2] 30)).alloc (.cells #[.int .i64 0, .int .i64 0, .int .i64 0, .int .i64 0, .int .i64 0, .int .i64 0, .int .i64 0, .int .i64 0] 34))) := hide (ba (ba (Below.refl _ _) _) _)
 have H7 : Hid (iblk ((w.alloc (.cells #[.int .i64 p1, .int .i64 p2] 30)).alloc (.cells #[.int .i64 0, .int .i64 0, .int .i64 0, .int .i64 0, .int .i64 0, .int .i64 0, .int .i64 0, .int .i64 0] 34)) w.heap.size 30 [p1, p2]) := hide ((iblk_new w 30 [p1, p2]).bel (ba (Below.refl _ _) _))
 have H8 : Hid (iblk ((w.alloc (.cells #[.int .i64 p1, .int .i64 p2] 30)).alloc (.cells #[.int .i64 0, .int .i64 0, .int .i64 0, .int .i64 0, .int .i64 0, .int .i64 0, .int .i64 0, .int .i64 0] 34)) (w.heap.size + 1) 34 [0, 0, 0, 0, 0, 0, 0, 0]) := hide (by
  have h := iblk_new (w.alloc (.cells #[.int .i64 p1, .int .i64 p2] 30)) 34 [0, 0, 0, 0, 0, 0, 0, 0]
  have e : (w.alloc (.cells #[.int .i64 p1, .int .i64 p2] 30)).heap.size = w.heap.size + 1 := by simp
  rw [e] at h
  exact h)
 go_enter Try.func42, Try.ntmps42
 go_wp2_with fail
 generalize (w.alloc (.cells #[.int .i64 p1, .int .i64 p2] 30)).alloc (.cells #[.int .i64 0, .int .i64 0, .int .i64 0, .int .i64 0, .int .i64 0, .int .i64 0, .int .i64 0, .int .i64 0] 34) = W0 at *
 refine (zu HS _).mono ?_
 rintro e W1 ⟨rfl, hb1⟩
 have H7a := hide ((zu H7).bel hb1)
 have H8a := hide ((zu H8).bel hb1)
 have HB1 := hide (bc (zu HB0) hb1)
 have l7 := (zu H7a).lt
 have l8 := (zu H8a).lt
 have c0 := (zu H7a).cell (m := 0) rfl
 have c1 := (zu H7a).cell (m := 1) rfl
 have o0 := (zu H8a).cell (m := 0) rfl
 have o1 := (zu H8a).cell (m := 1) rfl
 have o2 := (zu H8a).cell (m := 2) rfl
 have o3 := (zu H8a).cell (m := 3) rfl
 have o4 := (zu H8a).cell (m := 4) rfl
 have o5 := (zu H8a).cell (m := 5) rfl
 have o6 := (zu H8a).cell (m := 6) rfl
 have o7 := (zu H8a).cell (m := 7) rfl
 have f8 := (zu H8a).frozen
 clear hb1 H7 H8
 go_wp2_with fail
 have V := ((((((((zu H8a).set 0 0).set 1 0).set 2 0).set 3 0).set 4 X).set 5 Y).set 6 D).set 7 n
 have hBV : Below w.heap.size w ((((((((W1.setCell ⟨w.heap.size + 1, 0, none⟩ (.int .i64 0)).setCell ⟨w.heap.size + 1, 1, none⟩ (.int .i64 0)).setCell ⟨w.heap.size + 1, 2, none⟩ (.int .i64 0)).setCell ⟨w.heap.size + 1, 3, none⟩ (.int .i64 0)).setCell ⟨w.heap.size + 1, 4, none⟩ (.int .i64 X)).setCell ⟨w.heap.size + 1, 5, none⟩ (.int .i64 Y)).setCell ⟨w.heap.size + 1, 6, none⟩ (.int .i64 D)).setCell ⟨w.heap.size + 1, 7, none⟩ (.int .i64 n)) :=
  Below.setCell (Below.setCell (Below.setCell (Below.setCell (Below.setCell (Below.setCell (Below.setCell (Below.setCell (zu HB1) (Nat.le_succ _) _) (Nat.le_succ _) _) (Nat.le_succ _) _) (Nat.le_succ _) _) (Nat.le_succ _) _) (Nat.le_succ _) _) (Nat.le_succ _) _) (Nat.le_succ _) _
 generalize ((((((((W1.setCell ⟨w.heap.size + 1, 0, none⟩ (.int .i64 0)).setCell ⟨w.heap.size + 1, 1, none⟩ (.int .i64 0)).setCell ⟨w.heap.size + 1, 2, none⟩ (.int .i64 0)).setCell ⟨w.heap.size + 1, 3, none⟩ (.int .i64 0)).setCell ⟨w.heap.size + 1, 4, none⟩ (.int .i64 X)).setCell ⟨w.heap.size + 1, 5, none⟩ (.int .i64 Y)).setCell ⟨w.heap.size + 1, 6, none⟩ (.int .i64 D)).setCell ⟨w.heap.size + 1, 7, none⟩ (.int .i64 n)) = W9 at *
 have V2 : iblk ((W9.alloc (.cells #[.int .i64 X, .int .i64 Y, .int .i64 D] 70)).alloc (.cells #[.int .i64 0, .int .i64 0, .int .i64 0, .int .i64 0, .int .i64 X, .int .i64 Y, .int .i64 D, .int .i64 n] 34)) (w.heap.size + 1) 34 _ := V.bel (ba (ba (Below.refl _ _) _) _)
 have hB2 : Below w.heap.size w ((W9.alloc (.cells #[.int .i64 X, .int .i64 Y, .int .i64 D] 70)).alloc (.cells #[.int .i64 0, .int .i64 0, .int .i64 0, .int .i64 0, .int .i64 X, .int .i64 Y, .int .i64 D, .int .i64 n] 34)) := ba (ba hBV _) _
 have s0 := V2.cell (m := 0) rfl
 have s1 := V2.cell (m := 1) rfl
 have s2 := V2.cell (m := 2) rfl
 have s3 := V2.cell (m := 3) rfl
 have s4 := V2.cell (m := 4) rfl
 have s5 := V2.cell (m := 5) rfl
 have s6 := V2.cell (m := 6) rfl
 have s7 := V2.cell (m := 7) rfl
 have ls := V2.lt
 generalize ((W9.alloc (.cells #[.int .i64 X, .int .i64 Y, .int .i64 D] 70)).alloc (.cells #[.int .i64 0, .int .i64 0, .int .i64 0, .int .i64 0, .int .i64 X, .int .i64 Y, .int .i64 D, .int .i64 n] 34)) = W10 at *
 refine bodyPost_ret (v := .agg #[.int .i64 0, .int .i64 0, .int .i64 0, .int .i64 0, .int .i64 X, .int .i64 Y, .int .i64 D, .int .i64 n]) (by simp [results, Try.results42, go_sem, s0, s1, s2, s3, s4, s5, s6, s7, ls]) rfl ⟨rfl, ?_⟩
 exact hB2
theorem red_nr {x y d : Int} (hx : -400000000 ≤ x ∧ x ≤ 400000000) (hy : -400000000 ≤ y ∧ y ≤ 400000000) (hd : 0 < d ∧ d ≤ 640000) : NrS (red x y d) := by
 obtain ⟨g, hg, ex, ey, ed, hD, hc⟩ := red_facts x y d hd.1
 have b1 := tdiv_bd x (redG x y d) 400000000 (by omega) (by omega)
 have b2 := tdiv_bd y (redG x y d) 400000000 (by omega) (by omega)
 have b3 := tdiv_bd d (redG x y d) 640000 (by omega) (by omega)
 exact ⟨b1.1, b1.2, b2.1, b2.2, hD, b3.2⟩
theorem redM_nr {x y d : Int} (hx : -400000000 ≤ x ∧ x ≤ 400000000) (hy : -400000000 ≤ y ∧ y ≤ 400000000) (hd : d ≠ 0 ∧ -640000 ≤ d ∧ d ≤ 640000) : NrS (redM x y d) := by
 unfold redM
 split
 ·exact red_nr (by omega) (by omega) (by omega)
 ·exact red_nr (by omega) (by omega) (by omega)
theorem circM_any (x y d : Int) (p : Pt) (w : World) (hx : -400000000 ≤ x ∧ x ≤ 400000000) (hy : -400000000 ≤ y ∧ y ≤ 400000000) (hd : d ≠ 0 ∧ -640000 ≤ d ∧ d ≤ 640000) (hp : Nr1 p) :
  Calls Try.prog 42 #[.int .i64 x, .int .i64 y, .int .i64 d, .agg #[.int .i64 p.1, .int .i64 p.2]] w fun e w' => e = .returned (rgV 0 0 0 0 (cir (redM x y d) p)) ∧ Below w.heap.size w w' := by
 have h := redM_nr hx hy hd
 have b := way_bd h hp
 have := h.x1
 have := h.x2
 have := h.y1
 have := h.y2
 have m1 := mulB (x := p.1 * (redM x y d).2.2 - (redM x y d).1) (y := p.1 * (redM x y d).2.2 - (redM x y d).1) (a := 600000000) (b := 600000000) (by omega) (by omega) (by omega) (by omega)
 have m2 := mulB (x := p.2 * (redM x y d).2.2 - (redM x y d).2.1) (y := p.2 * (redM x y d).2.2 - (redM x y d).2.1) (a := 600000000) (b := 600000000) (by omega) (by omega) (by omega) (by omega)
 exact circM_core x y d p.1 p.2 (redM x y d).1 (redM x y d).2.1 (redM x y d).2.2 (p.1 * (redM x y d).2.2 - (redM x y d).1) (p.2 * (redM x y d).2.2 - (redM x y d).2.1) _ _ _ w (wr64 (by omega) (by omega)) (wr64 (by omega) (by omega)) (wr64 (by omega) (by omega)) (wr64 (by omega) (by omega)) (wr64 (by omega) (by omega)) (wr64 (by omega) (by omega)) (wr64 (by omega) (by omega)) (hide fun W => spotM x y d W hd.1 (by omega) (by omega) (by omega))
theorem sharpM_core (a1 a2 b1 b2 c1 c2 : Int) (t : Bool) (w : World) (h1 : IntKind.i64.wrap (b1 - a1) = b1 - a1) (h2 : IntKind.i64.wrap (c1 - a1) = c1 - a1) (h3 : IntKind.i64.wrap (b2 - a2) = b2 - a2) (h4 : IntKind.i64.wrap (c2 - a2) = c2 - a2)
  (h5 : IntKind.i64.wrap ((b1 - a1) * (c1 - a1)) = (b1 - a1) * (c1 - a1)) (h6 : IntKind.i64.wrap ((b2 - a2) * (c2 - a2)) = (b2 - a2) * (c2 - a2)) (h7 : IntKind.i64.wrap ((b1 - a1) * (c1 - a1) + (b2 - a2) * (c2 - a2)) = (b1 - a1) * (c1 - a1) + (b2 - a2) * (c2 - a2)) (ht : decide (0 ≤ (b1 - a1) * (c1 - a1) + (b2 - a2) * (c2 - a2)) = t) :
  Calls Try.prog 71 #[.agg #[.int .i64 a1, .int .i64 a2], .agg #[.int .i64 b1, .int .i64 b2], .agg #[.int .i64 c1, .int .i64 c2]] w fun e w' => e = .returned (.bool t) ∧ Below w.heap.size w w' := by
 go_enter Try.func71, Try.ntmps71
 go_wp2_with fail
 go_ret
 refine ⟨?_, ba (ba (ba (Below.refl _ _) _) _) _⟩
 simp only [← ht]
 first | rfl | (congr 1; simp [Int.not_lt])
theorem sharpM_any (a b c : Pt) (w : World) (ha : Nr1 a) (hb : Nr1 b) (hc : Nr1 c) :
  Calls Try.prog 71 #[.agg #[.int .i64 a.1, .int .i64 a.2], .agg #[.int .i64 b.1, .int .i64 b.2], .agg #[.int .i64 c.1, .int .i64 c.2]] w fun e w' => e = .returned (.bool (decide (0 ≤ dt a b c))) ∧ Below w.heap.size w w' := by
 obtain ⟨a1, a2, a3, a4⟩ := ha
 obtain ⟨b1, b2, b3, b4⟩ := hb
 obtain ⟨c1, c2, c3, c4⟩ := hc
 have m1 := mulB (x := b.1 - a.1) (y := c.1 - a.1) (a := 400) (b := 400) (by omega) (by omega) (by omega) (by omega)
 have m2 := mulB (x := b.2 - a.2) (y := c.2 - a.2) (a := 400) (b := 400) (by omega) (by omega) (by omega) (by omega)
 exact sharpM_core a.1 a.2 b.1 b.2 c.1 c.2 _ w (wr64 (by omega) (by omega)) (wr64 (by omega) (by omega)) (wr64 (by omega) (by omega)) (wr64 (by omega) (by omega)) (wr64 (by omega) (by omega)) (wr64 (by omega) (by omega)) (wr64 (by omega) (by omega)) rfl
set_option maxHeartbeats 2000000 in
set_option maxRecDepth 100000 in
theorem pairM_core (a1 a2 b1 b2 X Y D n : Int) (w : World) (h1 : IntKind.i64.wrap (a1 + b1) = a1 + b1) (h2 : IntKind.i64.wrap (a2 + b2) = a2 + b2)
  (HS : Hid (∀ W : World, Calls Try.prog 42 #[.int .i64 (a1 + b1), .int .i64 (a2 + b2), .int .i64 2, .agg #[.int .i64 a1, .int .i64 a2]] W fun e w' => e = .returned (.agg #[.int .i64 0, .int .i64 0, .int .i64 0, .int .i64 0, .int .i64 X, .int .i64 Y, .int .i64 D, .int .i64 n]) ∧ Below W.heap.size W w')) :
  Calls Try.prog 43 #[.agg #[.int .i64 a1, .int .i64 a2], .agg #[.int .i64 b1, .int .i64 b2]] w fun e w' => e = .returned (.agg #[.int .i64 0, .int .i64 0, .int .i64 0, .int .i64 0, .int .i64 X, .int .i64 Y, .int .i64 D, .int .i64 n]) ∧ Below w.heap.size w w' := by
 have HB0 : Hid (Below w.heap.size w (((w.alloc (.cells #[.int .i64 a1, .int .i64 a2] 30)).alloc (.cells #[.int .i64 b1, .int .i64 b2] 30)).alloc (.cells #[.int .i64 0, .int .i64 0, .int .i64 0, .int .i64 0, .int .i64 0, .int .i64 0, .int .i64 0, .int .i64 0] 34))) := hide (ba (ba (ba (Below.refl _ _) _) _) _)
 have H8 : Hid (iblk (((w.alloc (.cells #[.int .i64 a1, .int .i64 a2] 30)).alloc (.cells #[.int .i64 b1, .int .i64 b2] 30)).alloc (.cells #[.int .i64 0, .int .i64 0, .int .i64 0, .int .i64 0, .int .i64 0, .int .i64 0, .int .i64 0, .int .i64 0] 34)) (w.heap.size + 1 + 1) 34 [0, 0, 0, 0, 0, 0, 0, 0]) := hide (by
  have h := iblk_new ((w.alloc (.cells #[.int .i64 a1, .int .i64 a2] 30)).alloc (.cells #[.int .i64 b1, .int .i64 b2] 30)) 34 [0, 0, 0, 0, 0, 0, 0, 0]
  have e : ((w.alloc (.cells #[.int .i64 a1, .int .i64 a2] 30)).alloc (.cells #[.int .i64 b1, .int .i64 b2] 30)).heap.size = w.heap.size + 1 + 1 := by simp
  rw [e] at h
  exact h)
 go_enter Try.func43, Try.ntmps43
 go_wp2_with fail
 generalize (((w.alloc (.cells #[.int .i64 a1, .int .i64 a2] 30)).alloc (.cells #[.int .i64 b1, .int .i64 b2] 30)).alloc (.cells #[.int .i64 0, .int .i64 0, .int .i64 0, .int .i64 0, .int .i64 0, .int .i64 0, .int .i64 0, .int .i64 0] 34)) = W0 at *
 refine (zu HS _).mono ?_
 rintro e W1 ⟨rfl, hb1⟩
 have H8a := hide ((zu H8).bel hb1)
 have HB1 := hide (bc (zu HB0) hb1)
 have l8 := (zu H8a).lt
 have o0 := (zu H8a).cell (m := 0) rfl
 have o1 := (zu H8a).cell (m := 1) rfl
 have o2 := (zu H8a).cell (m := 2) rfl
 have o3 := (zu H8a).cell (m := 3) rfl
 have o4 := (zu H8a).cell (m := 4) rfl
 have o5 := (zu H8a).cell (m := 5) rfl
 have o6 := (zu H8a).cell (m := 6) rfl
 have o7 := (zu H8a).cell (m := 7) rfl
 have f8 := (zu H8a).frozen
 clear hb1 H8
 go_wp2_with fail
 have V := ((((((((zu H8a).set 0 0).set 1 0).set 2 0).set 3 0).set 4 X).set 5 Y).set 6 D).set 7 n
 have h2n : w.heap.size ≤ w.heap.size + 1 + 1 := by omega
 have hBV : Below w.heap.size w ((((((((W1.setCell ⟨w.heap.size + 1 + 1, 0, none⟩ (.int .i64 0)).setCell ⟨w.heap.size + 1 + 1, 1, none⟩ (.int .i64 0)).setCell ⟨w.heap.size + 1 + 1, 2, none⟩ (.int .i64 0)).setCell ⟨w.heap.size + 1 + 1, 3, none⟩ (.int .i64 0)).setCell ⟨w.heap.size + 1 + 1, 4, none⟩ (.int .i64 X)).setCell ⟨w.heap.size + 1 + 1, 5, none⟩ (.int .i64 Y)).setCell ⟨w.heap.size + 1 + 1, 6, none⟩ (.int .i64 D)).setCell ⟨w.heap.size + 1 + 1, 7, none⟩ (.int .i64 n)) :=
  Below.setCell (Below.setCell (Below.setCell (Below.setCell (Below.setCell (Below.setCell (Below.setCell (Below.setCell (zu HB1) h2n _) h2n _) h2n _) h2n _) h2n _) h2n _) h2n _) h2n _
 have s0 := V.cell (m := 0) rfl
 have s1 := V.cell (m := 1) rfl
 have s2 := V.cell (m := 2) rfl
 have s3 := V.cell (m := 3) rfl
 have s4 := V.cell (m := 4) rfl
 have s5 := V.cell (m := 5) rfl
 have s6 := V.cell (m := 6) rfl
 have s7 := V.cell (m := 7) rfl
 generalize ((((((((W1.setCell ⟨w.heap.size + 1 + 1, 0, none⟩ (.int .i64 0)).setCell ⟨w.heap.size + 1 + 1, 1, none⟩ (.int .i64 0)).setCell ⟨w.heap.size + 1 + 1, 2, none⟩ (.int .i64 0)).setCell ⟨w.heap.size + 1 + 1, 3, none⟩ (.int .i64 0)).setCell ⟨w.heap.size + 1 + 1, 4, none⟩ (.int .i64 X)).setCell ⟨w.heap.size + 1 + 1, 5, none⟩ (.int .i64 Y)).setCell ⟨w.heap.size + 1 + 1, 6, none⟩ (.int .i64 D)).setCell ⟨w.heap.size + 1 + 1, 7, none⟩ (.int .i64 n)) = W9 at *
 refine bodyPost_ret (v := .agg #[.int .i64 0, .int .i64 0, .int .i64 0, .int .i64 0, .int .i64 X, .int .i64 Y, .int .i64 D, .int .i64 n]) (by simp [results, Try.results43, go_sem, s0, s1, s2, s3, s4, s5, s6, s7]) rfl ⟨rfl, ?_⟩
 exact hBV
theorem pairM_any (a b : Pt) (w : World) (ha : Nr1 a) (hb : Nr1 b) :
  Calls Try.prog 43 #[.agg #[.int .i64 a.1, .int .i64 a.2], .agg #[.int .i64 b.1, .int .i64 b.2]] w fun e w' => e = .returned (rgV 0 0 0 0 (thr [a, b])) ∧ Below w.heap.size w w' := by
 have hp := ha
 obtain ⟨a1, a2, a3, a4⟩ := ha
 obtain ⟨b1, b2, b3, b4⟩ := hb
 have h := pairM_core a.1 a.2 b.1 b.2 (cir (redM (a.1 + b.1) (a.2 + b.2) 2) a).X (cir (redM (a.1 + b.1) (a.2 + b.2) 2) a).Y (cir (redM (a.1 + b.1) (a.2 + b.2) 2) a).D (cir (redM (a.1 + b.1) (a.2 + b.2) 2) a).N w (wr64 (by omega) (by omega)) (wr64 (by omega) (by omega)) (hide fun W => circM_any (a.1 + b.1) (a.2 + b.2) 2 a W (by omega) (by omega) (by omega) hp)
 have e : cir (redM (a.1 + b.1) (a.2 + b.2) 2) a = thr [a, b] := by
  unfold redM
  rw [if_neg (by omega)]
  rfl
 rw [e] at h
 exact h
def hasB (L : List Pt) (c : Ic) : Bool := L.all fun q => decide (apt c q ≤ c.N)
theorem apt_w {c : Ic} {x y : Int} (h : NrS (c.X, c.Y, c.D)) (hp : Nr1 (x, y)) : IntKind.i64.wrap (x * c.D) = x * c.D ∧ IntKind.i64.wrap (y * c.D) = y * c.D ∧ IntKind.i64.wrap (x * c.D - c.X) = x * c.D - c.X ∧ IntKind.i64.wrap (y * c.D - c.Y) = y * c.D - c.Y ∧ IntKind.i64.wrap ((x * c.D - c.X) * (x * c.D - c.X)) = (x * c.D - c.X) * (x * c.D - c.X) ∧ IntKind.i64.wrap ((y * c.D - c.Y) * (y * c.D - c.Y)) = (y * c.D - c.Y) * (y * c.D - c.Y) ∧ IntKind.i64.wrap ((x * c.D - c.X) * (x * c.D - c.X) + (y * c.D - c.Y) * (y * c.D - c.Y)) = (x * c.D - c.X) * (x * c.D - c.X) + (y * c.D - c.Y) * (y * c.D - c.Y) := by
 have b := way_bd h hp
 have := h.x1
 have := h.x2
 have := h.y1
 have := h.y2
 simp only at *
 have m1 := mulB (x := x * c.D - c.X) (y := x * c.D - c.X) (a := 600000000) (b := 600000000) (by omega) (by omega) (by omega) (by omega)
 have m2 := mulB (x := y * c.D - c.Y) (y := y * c.D - c.Y) (a := 600000000) (b := 600000000) (by omega) (by omega) (by omega) (by omega)
 exact ⟨wr64 (by omega) (by omega), wr64 (by omega) (by omega), wr64 (by omega) (by omega), wr64 (by omega) (by omega), wr64 (by omega) (by omega), wr64 (by omega) (by omega), wr64 (by omega) (by omega)⟩
set_option maxHeartbeats 4000000 in
set_option maxRecDepth 100000 in
theorem hasM_core (b cap n : Nat) (L : List Pt) (q a d f X Y D N : Int) (w : World) (HL : Hid (L.length = n)) (hn : n ≤ 4611686018427387904) (hb : b < w.heap.size) (HI : Hid (IntsAt w b 0 (flat2 L)))
  (HW : Hid (∀ x y : Int, (x, y) ∈ L → IntKind.i64.wrap (x * D) = x * D ∧ IntKind.i64.wrap (y * D) = y * D ∧ IntKind.i64.wrap (x * D - X) = x * D - X ∧ IntKind.i64.wrap (y * D - Y) = y * D - Y ∧ IntKind.i64.wrap ((x * D - X) * (x * D - X)) = (x * D - X) * (x * D - X) ∧ IntKind.i64.wrap ((y * D - Y) * (y * D - Y)) = (y * D - Y) * (y * D - Y) ∧ IntKind.i64.wrap ((x * D - X) * (x * D - X) + (y * D - Y) * (y * D - Y)) = (x * D - X) * (x * D - X) + (y * D - Y) * (y * D - Y))) :
  Calls Try.prog 44 #[.slice (some ⟨b, 0, none⟩) n cap, .agg #[.int .i64 q, .int .i64 a, .int .i64 d, .int .i64 f, .int .i64 X, .int .i64 Y, .int .i64 D, .int .i64 N]] w fun e w' => e = .returned (.bool (hasB L ⟨X, Y, D, N⟩)) ∧ Below w.heap.size w w' := by
 have HB0 := hide (ba (Below.refl w.heap.size w) (.cells #[.int .i64 q, .int .i64 a, .int .i64 d, .int .i64 f, .int .i64 X, .int .i64 Y, .int .i64 D, .int .i64 N] 34))
 have H3 := hide (iblk_new w 34 [q, a, d, f, X, Y, D, N])
 have HI1 := hide ((zu HI).below (zu HB0) hb)
 go_enter Try.func44, Try.ntmps44
 go_wp2_with fail
 have H3' : Hid (iblk (w.alloc (.cells #[.int .i64 q, .int .i64 a, .int .i64 d, .int .i64 f, .int .i64 X, .int .i64 Y, .int .i64 D, .int .i64 N] 34)) w.heap.size 34 [q, a, d, f, X, Y, D, N]) := H3
 clear H3
 generalize w.alloc (.cells #[.int .i64 q, .int .i64 a, .int .i64 d, .int .i64 f, .int .i64 X, .int .i64 Y, .int .i64 D, .int .i64 N] 34) = W0 at *
 go_loopw [5] (fun z V => ∃ i : Nat, z = .int .i64 (i : Int) ∧ i ≤ n ∧ (∀ j p, j < i → L[j]? = some p → apt ⟨X, Y, D, N⟩ p ≤ N) ∧ Same W0 V) (fun z _ => n - (intOf z).toNat)
 case atStart => exact ⟨0, rfl, Nat.zero_le _, fun j p h => by omega, Same.refl _⟩
 case round =>
  obtain ⟨i, rfl, hi, hall, hs⟩ := hrel
  have HA := hide hall
  have HS := hide hs
  by_cases h : i < n
  ·have i1 : (i : Int) < (n : Int) := by omega
   have i0 : (0 : Int) ≤ (i : Int) := Int.natCast_nonneg _
   have iz : decide ((i : Int) < (n : Int)) = true := decide_eq_true i1
   obtain ⟨⟨x, y⟩, hx⟩ : ∃ q, L[i]? = some q := ⟨_, List.getElem?_eq_getElem (by rw [zu HL]; omega)⟩
   obtain ⟨c0, c1⟩ := pts_at (zu HI1) hx
   obtain ⟨w1, w2, w3, w4, w5, w6, w7⟩ := zu HW x y (List.mem_of_getElem? hx)
   have k4 := (zu H3').cell (m := 4) rfl
   have k5 := (zu H3').cell (m := 5) rfl
   have k6 := (zu H3').cell (m := 6) rfl
   have k7 := (zu H3').cell (m := 7) rfl
   rw [← hs.cell] at c0 c1 k4 k5 k6 k7
   have HX := hide hx
   have HE : Hid (apt ⟨X, Y, D, N⟩ (x, y) = (x * D - X) * (x * D - X) + (y * D - Y) * (y * D - Y)) := hide rfl
   clear hall hs hx
   by_cases g : N < (x * D - X) * (x * D - X) + (y * D - Y) * (y * D - Y)
   ·have t1 := decide_eq_true g
    have HR : Hid (hasB L ⟨X, Y, D, N⟩ = false) := hide (by
     unfold hasB
     rw [List.all_eq_false]
     exact ⟨(x, y), List.mem_of_getElem? (zu HX), by rw [zu HE]; simp; exact g⟩)
    go_wp2_with fail
    go_quiet (fail)
    go_wp2_with fail
    go_quiet (fail)
    go_wp2_with fail
    go_ret
    refine ⟨ret_bool (zu HR).symm, ?_⟩
    first | exact bc (zu HB0) (Same.bel (sameDn (zu HS) _)) | exact bc (zu HB0) (Same.bel (sameDn (sameDn (zu HS) _) _))
   ·have t1 := decide_eq_false g
    have HN : Hid (∀ j p, j < i + 1 → L[j]? = some p → apt ⟨X, Y, D, N⟩ p ≤ N) := hide (fun j p hj hp => by
     by_cases e : j < i
     ·exact zu HA j p e hp
     ·have e2 : j = i := by omega
      rw [e2, zu HX] at hp
      have := Option.some.inj hp
      rw [← this, zu HE]
      omega)
    have wi : IntKind.i64.wrap ((i : Int) + 1) = (i : Int) + 1 := wr64 (by omega) (by omega)
    go_wp2_with fail
    go_quiet (fail)
    go_wp2_with fail
    go_quiet (fail)
    go_wp2_with fail
    go_roundw
    case rel => exact ⟨i + 1, by simp, by omega, zu HN, by first | exact sameDn (zu HS) _ | exact sameDn (sameDn (zu HS) _) _⟩
    case measure => simp only [intOf]; omega
  ·have iz : decide ((i : Int) < (n : Int)) = false := decide_eq_false (by omega)
   have HR : Hid (hasB L ⟨X, Y, D, N⟩ = true) := hide (by
    unfold hasB
    rw [List.all_eq_true]
    intro p hp
    obtain ⟨j, hj, e⟩ := List.getElem_of_mem hp
    rw [decide_eq_true_eq]
    exact hall j p (by rw [zu HL] at hj; omega) (by rw [List.getElem?_eq_getElem hj, e]))
   clear hall hs
   go_wp2_with fail
   go_ret
   exact ⟨ret_bool (zu HR).symm, bc (zu HB0) (zu HS).bel⟩
theorem hasM_any (b cap n : Nat) (L : List Pt) (q a d f : Int) (c : Ic) (w : World) (hL : L.length = n) (hn : n ≤ 4611686018427387904) (hb : b < w.heap.size) (hI : IntsAt w b 0 (flat2 L)) (hc : NrS (c.X, c.Y, c.D)) (hN : ∀ p ∈ L, Nr1 p) :
  Calls Try.prog 44 #[.slice (some ⟨b, 0, none⟩) n cap, rgV q a d f c] w fun e w' => e = .returned (.bool (hasB L c)) ∧ Below w.heap.size w w' :=
 hasM_core b cap n L q a d f c.X c.Y c.D c.N w (hide hL) hn hb (hide hI) (hide fun x y h => apt_w hc (hN _ h))
end Go.Proofs.Ytdcecfgmfmpeeaa
