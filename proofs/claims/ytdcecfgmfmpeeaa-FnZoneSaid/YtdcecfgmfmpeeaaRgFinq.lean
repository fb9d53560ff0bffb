/-
  RingOf: the numbers that the program tells and those that the model tells are one. onRim: the first points on the rim, in their order.
-/
import Derived.Test.YtdcecfgmfmpeeaaRgUq
import Derived.Test.YtdcecfgmfmpeeaaRgIq
import Derived.Test.YtdcecfgmfmpeeaaRgGq
namespace Go.Proofs.Ytdcecfgmfmpeeaa
set_option linter.unusedVariables false
set_option linter.unusedSimpArgs false
def onB' (P : List Pt) (c : Ic) (i : Nat) : Bool := decide (apt c (ptAt P i) = c.N)
def rimL (P : List Pt) (c : Ic) : List Nat := (List.range P.length).filter fun i => onB' P c i && decide (fi P (ptAt P i) = i)
def numL (P : List Pt) : List Nat := (List.range P.length).filter fun i => decide (fi P (ptAt P i) = i) && decide (ptAt P i ∈ hullM (srtU P))
theorem ptAt_mem {P : List Pt} {i : Nat} (h : i < P.length) : ptAt P i ∈ P := List.mem_of_getElem? (ptAt_some h)
theorem numL_mem {P : List Pt} {i : Nat} : i ∈ numL P ↔ i < P.length ∧ fi P (ptAt P i) = i ∧ ptAt P i ∈ hullM (srtU P) := by
 unfold numL
 simp [List.mem_filter]
theorem rimL_mem {P : List Pt} {c : Ic} {i : Nat} : i ∈ rimL P c ↔ i < P.length ∧ apt c (ptAt P i) = c.N ∧ fi P (ptAt P i) = i := by
 unfold rimL onB'
 simp [List.mem_filter]
theorem rim_num {P S : List Pt} {c : Ic} {k : Ci} (hI : Is c k) (h : Md P [] S k) : rimL P c = (numL P).filter (onB' P c) := by
 unfold rimL numL
 rw [List.filter_filter]
 apply List.filter_congr
 intro i hi
 have hl : i < P.length := List.mem_range.1 hi
 by_cases ho : apt c (ptAt P i) = c.N
 ·have hh := rim_hull hI h (ptAt_mem hl) ho
  simp [onB', ho, hh]
 ·simp [onB', ho]
theorem rimL_sort (P : List Pt) (c : Ic) : (rimL P c).Pairwise (· < ·) := List.pairwise_lt_range.filter _
theorem numL_sort (P : List Pt) : (numL P).Pairwise (· < ·) := List.pairwise_lt_range.filter _
theorem fst_ne {P : List Pt} {i j : Nat} (hi : fi P (ptAt P i) = i) (hj : fi P (ptAt P j) = j) (h : i < j) : ptAt P i ≠ ptAt P j := by
 intro e
 rw [e, hj] at hi
 omega
def qP2 (P : List Pt) (c : Ic) (i j : Nat) : Bool := decide (thr [ptAt P i, ptAt P j] = c)
def qM2 (P : List Pt) (i j : Nat) : Bool := hasB (hullM (srtU P)) (thr [ptAt P i, ptAt P j])
def qP3 (P : List Pt) (i j l : Nat) : Bool := decide (Sharp (ptAt P i) (ptAt P j) (ptAt P l))
def qM3 (P : List Pt) (i j l : Nat) : Bool := triOk (ptAt P i) (ptAt P j) (ptAt P l) && hasB (hullM (srtU P)) (triC (ptAt P i) (ptAt P j) (ptAt P l))
theorem hasB_iff {L : List Pt} {c : Ic} : hasB L c = true ↔ ∀ q ∈ L, apt c q ≤ c.N := by
 unfold hasB
 rw [List.all_eq_true]
 simp
theorem pairs_eq {P S : List Pt} {c : Ic} {k : Ci} (hI : Is c k) (h : Md P [] S k) : fp (qP2 P c) (rimL P c) = fp (qM2 P) (numL P) := by
 have e1 : fp (qM2 P) (numL P) = fp (fun i j => onB' P c i && onB' P c j && qP2 P c i j) (numL P) := fp_congr (by
  refine List.Pairwise.imp_of_mem ?_ (numL_sort P)
  intro i j hi hj hij
  have pi := pair_iff hI h (numL_mem.1 hi).2.2 (numL_mem.1 hj).2.2
  rw [Bool.eq_iff_iff]
  unfold qM2 qP2 onB'
  rw [hasB_iff, pi]
  simp [and_assoc])
 have e3 := fp_filter (Q := fun i j => onB' P c i && onB' P c j && qP2 P c i j) (B := onB' P c) (fun i j hq => by
  rw [Bool.and_eq_true, Bool.and_eq_true] at hq
  exact ⟨hq.1.1, hq.1.2⟩) (numL P)
 rw [e1, ← e3, ← rim_num hI h]
 refine fp_congr ?_
 refine List.Pairwise.imp_of_mem ?_ (rimL_sort P c)
 intro i j hi hj hij
 have oi : onB' P c i = true := decide_eq_true (rimL_mem.1 hi).2.1
 have oj : onB' P c j = true := decide_eq_true (rimL_mem.1 hj).2.1
 rw [oi, oj]
 rfl
theorem triples_eq {P S : List Pt} {c : Ic} {k : Ci} (hI : Is c k) (h : Md P [] S k) : ft (qP3 P) (rimL P c) = ft (qM3 P) (numL P) := by
 have e1 : ft (qM3 P) (numL P) = ft (fun i j l => onB' P c i && onB' P c j && onB' P c l && qP3 P i j l) (numL P) := ft_congr (numL_sort P) (by
  intro i hi j hj l hl hij hjl
  obtain ⟨_, fi', hi'⟩ := numL_mem.1 hi
  obtain ⟨_, fj', hj'⟩ := numL_mem.1 hj
  obtain ⟨_, fl', hl'⟩ := numL_mem.1 hl
  have ti := tri_iff hI h hi' hj' hl' (fst_ne fi' fj' hij) (fst_ne fi' fl' (by omega)) (fst_ne fj' fl' hjl)
  rw [Bool.eq_iff_iff]
  unfold qM3 qP3 onB'
  rw [Bool.and_eq_true, hasB_iff]
  have e2 : (triOk (ptAt P i) (ptAt P j) (ptAt P l) = true ∧ ∀ q ∈ hullM (srtU P), apt (triC (ptAt P i) (ptAt P j) (ptAt P l)) q ≤ (triC (ptAt P i) (ptAt P j) (ptAt P l)).N) ↔ (side (ptAt P i) (ptAt P j) (ptAt P l) ≠ 0 ∧ Sharp (ptAt P i) (ptAt P j) (ptAt P l) ∧ ∀ q ∈ hullM (srtU P), apt (tM (ptAt P i) (ptAt P j) (ptAt P l)) q ≤ (tM (ptAt P i) (ptAt P j) (ptAt P l)).N) := by
   constructor
   ·rintro ⟨h1, h2⟩
    have h3 : triC (ptAt P i) (ptAt P j) (ptAt P l) = tM (ptAt P i) (ptAt P j) (ptAt P l) := by unfold triC; rw [h1]; rfl
    rw [h3] at h2
    have h4 := of_decide_eq_true h1
    exact ⟨h4.1, h4.2, h2⟩
   ·rintro ⟨h1, h2, h3⟩
    have h4 : triOk (ptAt P i) (ptAt P j) (ptAt P l) = true := decide_eq_true ⟨h1, h2⟩
    have h5 : triC (ptAt P i) (ptAt P j) (ptAt P l) = tM (ptAt P i) (ptAt P j) (ptAt P l) := by unfold triC; rw [h4]; rfl
    rw [h5]
    exact ⟨h4, h3⟩
  rw [e2, ti]
  simp [and_assoc])
 have e3 := ft_filter (Q := fun i j l => onB' P c i && onB' P c j && onB' P c l && qP3 P i j l) (B := onB' P c) (fun i j l hq => by
  rw [Bool.and_eq_true, Bool.and_eq_true, Bool.and_eq_true] at hq
  exact ⟨hq.1.1.1, hq.1.1.2, hq.1.2⟩) (numL P)
 rw [e1, ← e3, ← rim_num hI h]
 refine ft_congr (rimL_sort P c) ?_
 intro i hi j hj l hl hij hjl
 have oi : onB' P c i = true := decide_eq_true (rimL_mem.1 hi).2.1
 have oj : onB' P c j = true := decide_eq_true (rimL_mem.1 hj).2.1
 have ol : onB' P c l = true := decide_eq_true (rimL_mem.1 hl).2.1
 rw [oi, oj, ol]
 rfl
theorem fi_idx {P : List Pt} {p : Pt} (h : p ∈ P) : fi P p < P.length ∧ ptAt P (fi P p) = p ∧ fi P (ptAt P (fi P p)) = fi P p := by
 have f := fi_fst h
 have e := ptAt_of f.at'
 exact ⟨(List.getElem?_eq_some_iff.1 f.at').1, e, by rw [e]⟩
theorem fi_rim {P : List Pt} {c : Ic} {p : Pt} (h : p ∈ P) (h0 : apt c p = c.N) : fi P p ∈ rimL P c := by
 obtain ⟨a, b, d⟩ := fi_idx h
 exact rimL_mem.2 ⟨a, by rw [b]; exact h0, d⟩
theorem fp_two {Q : Nat → Nat → Bool} {L : List Nat} (hs : L.Pairwise (· < ·)) {i j : Nat} (hi : i ∈ L) (hj : j ∈ L) (h : i < j) (hq : Q i j = true) : fp Q L ≠ none := by
 intro hn
 have hp := fp_none hn
 have two : ∀ {M : List Nat}, M.Pairwise (· < ·) → M.Pairwise (fun i j => Q i j = false) → ∀ x ∈ M, ∀ y ∈ M, x < y → Q x y = false := by
  intro M
  induction M with
  | nil => intro _ _ x hx; cases hx
  | cons m M ihm =>
   intro s1 s2 x hx y hy hxy
   have t1 := List.pairwise_cons.1 s1
   have t2 := List.pairwise_cons.1 s2
   rcases List.mem_cons.1 hy with ey | ey
   ·rcases List.mem_cons.1 hx with ex | ex
    ·omega
    ·have := t1.1 x ex; omega
   ·rcases List.mem_cons.1 hx with ex | ex
    ·rw [ex]; exact t2.1 y ey
    ·exact ihm t1.2 t2.2 x ex y ey hxy
 have := two hs hp i hi j hj h
 rw [hq] at this
 cases this
theorem thr_mid {c : Ic} {k : Ci} {a b : Pt} (hI : Is c k) (ha : pw k a = 0) (hx : k.x * 2 = (a.1 : Rat) + (b.1 : Rat)) (hy : k.y * 2 = (a.2 : Rat) + (b.2 : Rat)) : thr [a, b] = c := by
 obtain ⟨k2, hI2, hM2, hx2, hy2⟩ := thr2 a b
 have e : k2 = k := by
  have p2 := hM2.fea.rim a (by simp)
  obtain ⟨x, y, n⟩ := k
  obtain ⟨x2, y2, n2⟩ := k2
  simp only [Ci.mk.injEq] at *
  have ex : x2 = x := by grind
  have ey : y2 = y := by grind
  refine ⟨ex, ey, ?_⟩
  unfold pw at ha p2
  simp only at ha p2
  rw [ex, ey] at p2
  grind
 rw [e] at hI2
 exact hI2.uniq hI
theorem sharp_perm {a b d : Pt} (h : Sharp a b d) : Sharp b d a ∧ Sharp a d b := by
 obtain ⟨h1, h2, h3⟩ := h
 have s : ∀ x y z : Pt, dt x z y = dt x y z := fun x y z => by unfold dt; grind
 refine ⟨⟨h2, h3, h1⟩, ⟨?_, ?_, ?_⟩⟩
 ·rw [s]; exact h1
 ·rw [s]; exact h3
 ·rw [s]; exact h2
theorem some_told {P S : List Pt} {c : Ic} {k : Ci} (hI : Is c k) (h : Md P [] S k) (hl : S.length ≤ 3) (hne : ∃ a ∈ P, ∃ b ∈ P, a ≠ b) : fp (qP2 P c) (rimL P c) ≠ none ∨ ft (qP3 P) (rimL P c) ≠ none := by
 rcases told h hl with ⟨s, hs, h0, hx, hy⟩ | ⟨a, ha, b, hb, hab, pa, pb, hx, hy⟩ | ⟨a, ha, b, hb, d, hd, ab, ad, bd, pa, pb, pd, hsh⟩
 ·exfalso
  obtain ⟨a, ha, b, hb, hab⟩ := hne
  have one : ∀ q ∈ P, q = s := fun q hq => by
   by_cases e : q = s
   ·exact e
   ·have := tangent h0 (h.fea.has q hq) e
    rw [hx, hy] at this
    grind
  exact hab ((one a ha).trans (one b hb).symm)
 ·left
  have ra := fi_rim ha ((hI.onr a).1 pa)
  have rb := fi_rim hb ((hI.onr b).1 pb)
  obtain ⟨_, ea, _⟩ := fi_idx ha
  obtain ⟨_, eb, _⟩ := fi_idx hb
  have hn : fi P a ≠ fi P b := fun e => hab (by rw [← ea, ← eb, e])
  rcases Nat.lt_or_gt_of_ne hn with g | g
  ·exact fp_two (rimL_sort P c) ra rb g (by unfold qP2; rw [ea, eb]; exact decide_eq_true (thr_mid hI pa hx hy))
  ·exact fp_two (rimL_sort P c) rb ra g (by unfold qP2; rw [ea, eb]; exact decide_eq_true (thr_mid hI pb (by rw [hx]; grind) (by rw [hy]; grind)))
 ·right
  have ra := fi_rim ha ((hI.onr a).1 pa)
  have rb := fi_rim hb ((hI.onr b).1 pb)
  have rd := fi_rim hd ((hI.onr d).1 pd)
  obtain ⟨_, ea, _⟩ := fi_idx ha
  obtain ⟨_, eb, _⟩ := fi_idx hb
  obtain ⟨_, ed, _⟩ := fi_idx hd
  have nab : fi P a ≠ fi P b := fun e => ab (by rw [← ea, ← eb, e])
  have nad : fi P a ≠ fi P d := fun e => ad (by rw [← ea, ← ed, e])
  have nbd : fi P b ≠ fi P d := fun e => bd (by rw [← eb, ← ed, e])
  intro hn
  have no := ft_none (rimL_sort P c) hn
  have q : ∀ x y z : Pt, ptAt P (fi P x) = x → ptAt P (fi P y) = y → ptAt P (fi P z) = z → Sharp x y z → qP3 P (fi P x) (fi P y) (fi P z) = true := fun x y z hx hy hz hq => by
   unfold qP3
   rw [hx, hy, hz]
   exact decide_eq_true hq
  have s1 := hsh
  obtain ⟨s2, s3⟩ := sharp_perm s1
  obtain ⟨s4, _⟩ := sharp_perm s2
  obtain ⟨s5, _⟩ := sharp_perm s3
  obtain ⟨s6, _⟩ := sharp_perm s5
  rcases Nat.lt_or_gt_of_ne nab with g1 | g1 <;> rcases Nat.lt_or_gt_of_ne nad with g2 | g2 <;> rcases Nat.lt_or_gt_of_ne nbd with g3 | g3
  ·have := no _ ra _ rb _ rd g1 g3; rw [q a b d ea eb ed s1] at this; cases this
  ·have := no _ ra _ rd _ rb g2 g3; rw [q a d b ea ed eb s3] at this; cases this
  ·omega
  ·have := no _ rd _ ra _ rb g2 g1; rw [q d a b ed ea eb s4] at this; cases this
  ·have := no _ rb _ ra _ rd g1 g2; rw [q b a d eb ea ed s6] at this; cases this
  ·omega
  ·have := no _ rb _ rd _ ra g3 g2; rw [q b d a eb ed ea s2] at this; cases this
  ·have := no _ rd _ rb _ ra g3 g1; rw [q d b a ed eb ea s5] at this; cases this
open Go.ChangeShapes Go.WideShapes Go.ChangeAt Go.RowKit
def nums (A : List Nat) : List Int := A.map fun (i : Nat) => (i : Int)
theorem nums_len (A : List Nat) : (nums A).length = A.length := by simp [nums]
theorem int_info3 : (Try.prog.info? 3).map (fun i => (i.zero, i.size, i.bytes)) = some (some (.int .i64 0), 1, 8) := by kernel_rfl
def rl (P : List Pt) (c : Ic) (i : Nat) : List Nat := (List.range i).filter fun j => onB' P c j && decide (fi P (ptAt P j) = j)
theorem rl_all (P : List Pt) (c : Ic) : rl P c P.length = rimL P c := rfl
theorem rl_succ (P : List Pt) (c : Ic) (i : Nat) : rl P c (i + 1) = if onB' P c i = true ∧ fi P (ptAt P i) = i then rl P c i ++ [i] else rl P c i := by
 unfold rl
 rw [List.range_succ, List.filter_append]
 by_cases h : onB' P c i = true ∧ fi P (ptAt P i) = i
 ·rw [if_pos h]
  simp [h.1, h.2]
 ·rw [if_neg h]
  by_cases h1 : onB' P c i = true
  ·have h2 : ¬ fi P (ptAt P i) = i := fun e => h ⟨h1, e⟩
   simp [h1, h2]
  ·simp [h1]
theorem rl_len (P : List Pt) (c : Ic) (i : Nat) : (rl P c i).length ≤ i := by
 have := List.length_filter_le (fun j => onB' P c j && decide (fi P (ptAt P j) = j)) (List.range i)
 rw [List.length_range] at this
 exact this
set_option maxHeartbeats 4000000 in
set_option maxRecDepth 100000 in
theorem onRim_any (b cap n : Nat) (P : List Pt) (c : Ic) (w : World) (hL : P.length = n) (hn : n ≤ 200) (hb : b < w.heap.size) (hI : IntsAt w b 0 (flat2 P)) (hN : Nrl P) (hc : NrS (c.X, c.Y, c.D)) :
  Calls Try.prog 67 #[icV c, .slice (some ⟨b, 0, none⟩) n cap] w fun e w' => ∃ v, e = .returned v ∧ Row w' (w.heap.size + 1) 3 1 v (rimL P c).length (nums (rimL P c)) ∧ Below w.heap.size w w' := by
 obtain ⟨iP, hi1, hy0, hy1, hy2⟩ := info_parts int_info3
 have HL := hide hL
 have HI := hide hI
 have HN := hide hN
 have HAP := hide (fun i Xw (h : i < n) => apart_any c (ptAt P i) Xw hc (hN.at (by omega)))
 have HIX := hide (fun i (X : World) (h : i < n) (hX : Below w.heap.size w X) => idxP_any b cap n P (ptAt P i).1 (ptAt P i).2 (fi P (ptAt P i)) X (hide hL) (by omega) (Nat.lt_of_lt_of_le hb hX.size) (hide (hI.below hX hb)) (hide (fi_fst (List.mem_of_getElem? (ptAt_some (L := P) (i := i) (by omega))))))
 have HFI := hide (fun i (h : i < n) => (List.getElem?_eq_some_iff.1 (fi_fst (List.mem_of_getElem? (ptAt_some (L := P) (i := i) (by omega)))).at').1)
 have HRS := hide (fun i => rl_succ P c i)
 have HRL := hide (fun i => rl_len P c i)
 have HAL : Hid (rl P c n = rimL P c) := hide (by rw [← hL]; rfl)
 have HON : Hid (∀ i, (onB' P c i = true ↔ apt c (ptAt P i) = c.N)) := hide (fun i => by unfold onB'; simp)
 obtain ⟨A, hA⟩ : ∃ A, rl P c = A := ⟨_, rfl⟩
 simp only [hA] at HRS HRL HAL
 have hA0 : A 0 = [] := by rw [← hA]; rfl
 have HA0 := hide hA0
 obtain ⟨X, Y, D, N⟩ := c
 have K0 : Hid (Below w.heap.size w (w.alloc (.cells #[.int .i64 X, .int .i64 Y, .int .i64 D, .int .i64 N] 72))) := hide (ba (Below.refl _ _) _)
 have R2 : Hid (cb (w.alloc (.cells #[.int .i64 X, .int .i64 Y, .int .i64 D, .int .i64 N] 72)) w.heap.size 72 [.int .i64 X, .int .i64 Y, .int .i64 D, .int .i64 N]) := hide (cb_new w 72 _ _ rfl)
 unfold icV at HAP ⊢
 simp only at HAP HON ⊢
 clear hA hA0 hL hI hN hc
 go_enter Try.func67, Try.ntmps67
 go_wp2_with fail
 generalize w.alloc (.cells #[.int .i64 X, .int .i64 Y, .int .i64 D, .int .i64 N] 72) = V0 at *
 go_loopw [5, 10] (fun z5 z X' => ∃ i : Nat, z = .int .i64 (i : Int) ∧ i ≤ n ∧ Row X' (w.heap.size + 1) 3 1 z5 (A i).length (nums (A i)) ∧ cb X' w.heap.size 72 [.int .i64 X, .int .i64 Y, .int .i64 D, .int .i64 N] ∧ Below w.heap.size w X') (fun _ z _ => n - (intOf z).toNat)
 case atStart => exact ⟨0, rfl, Nat.zero_le _, by rw [zu HA0]; exact World.ownsRow_nil _ _ _ _, zu R2, zu K0⟩
 case round =>
  obtain ⟨i, rfl, hi, h5, h2, hw⟩ := hrel
  obtain ⟨ku, kc, rfl, _⟩ := h5.form
  have H5 := hide h5
  have H2 := hide h2
  have HW := hide hw
  clear h5 h2 hw
  by_cases h : i < n
  ·have i1 : (i : Int) < (n : Int) := by omega
   have i0 : (0 : Int) ≤ (i : Int) := Int.natCast_nonneg _
   have iz : decide ((i : Int) < (n : Int)) = true := decide_eq_true i1
   have hx := ptAt_some (L := P) (i := i) (by rw [zu HL]; exact h)
   have HAPi := hide (fun Xw => zu HAP i Xw h)
   have HIXi := hide (fun X => zu HIX i X h)
   have hfi := zu HFI i h
   have hrs := zu HRS i
   have hon := zu HON i
   have hrl := zu HRL i
   obtain ⟨⟨px, py⟩, hxy⟩ : ∃ q, ptAt P i = q := ⟨_, rfl⟩
   rw [hxy] at hx hrs hon hfi HAPi HIXi
   obtain ⟨c0, c1⟩ := pts_at ((zu HI).below (zu HW) hb) hx
   obtain ⟨ap, hap⟩ : ∃ ap, apt ⟨X, Y, D, N⟩ (px, py) = ap := ⟨_, rfl⟩
   obtain ⟨j, hj⟩ : ∃ j, fi P (px, py) = j := ⟨_, rfl⟩
   rw [hap] at hon HAPi
   rw [hj] at hrs hfi HIXi
   have HRSi := hide hrs
   have HONi := hide hon
   have hAl : Below wr.heap.size wr (wr.alloc (.cells #[.int .i64 px, .int .i64 py] 30)) := ba (Below.refl _ _) _
   have KX : Hid (Below w.heap.size w (wr.alloc (.cells #[.int .i64 px, .int .i64 py] 30))) := hide (ba (zu HW) _)
   have X2 := hide ((zu H2).bel hAl)
   have X5 := hide ((zu H5).below hAl)
   have X7 : Hid (cb (wr.alloc (.cells #[.int .i64 px, .int .i64 py] 30)) wr.heap.size 30 [.int .i64 px, .int .i64 py]) := hide (cb_new wr 30 _ _ rfl)
   clear hx hxy hap hj hrs hon hAl H5 H2 HW
   go_wp2_with fail
   generalize wr.alloc (.cells #[.int .i64 px, .int .i64 py] 30) = Wx at *
   generalize wr.heap.size = g7 at *
   clear c0 c1
   by_cases hr : ap = N
   ·refine Go.Code.wp_mono (Only.to (fun _ _ h => h)) (on5t (j := j) (r := ap) (x := px) (y := py) hr (hide ((zu X2).cell (m := 0) rfl)) (hide ((zu X2).cell (m := 1) rfl)) (hide ((zu X2).cell (m := 2) rfl)) (hide ((zu X2).cell (m := 3) rfl)) (hide ((zu X7).cell (m := 0) rfl)) (hide ((zu X7).cell (m := 1) rfl)) (hide fun Xw _ => zu HAPi Xw) (hide fun Xw hX => zu HIXi Xw (bc (zu KX) hX)) (fun Wy hBy => ?_))
    have KY := hide (bc (zu KX) hBy)
    have Y2 := hide ((zu X2).bel hBy)
    have Y5 := hide ((zu X5).below hBy)
    have lY := (zu Y2).lt
    clear hBy KX X2 X5 X7 HAPi HIXi
    by_cases hij : j = i
    ·have e1 : ((j : Int) == (i : Int)) = true := beq_iff_eq.2 (by omega)
     have hAi : A (i + 1) = A i ++ [i] := by rw [zu HRSi, if_pos ⟨(zu HONi).2 hr, hij⟩]
     have HAi := hide hAi
     clear hAi
     go_wp2_with (at_builtin; refine zu ?_)
     refine hide ?_
     refine wpList_append_own _ rfl _ _ 37 rfl (w.heap.size + 1) 3 iP _ 1 8 Try.underlying37 hi1 hy0 hy1 hy2 rfl (by decide) _ (A i).length ((nums (A i)).map (Value.int .i64)) rfl ((zu Y5).alloc _) _ 1 1 ([(i : Int)].map (Value.int .i64)) rfl rfl (by first | exact news_cells _ _ rfl | exact news_cells _ _ (by simp)) ints_one (by unfold maxLen; omega) (by omega) (by first | omega | (simp; omega)) ?_
     intro v1 w1 hown' hgrow _
     have R1 := own_more (wr := Wy) (news := [(i : Int)]) (by repeat (first | exact Below.refl _ _ | refine Below.alloc ?_ (by first | omega | (simp; omega)) _ | refine Below.drew ?_)) (by simp; omega) (zu Y5) hown' hgrow
     have HR1 := hide R1.1
     have hB1 := R1.2
     have Q2 : Hid (cb w1 w.heap.size 72 [.int .i64 X, .int .i64 Y, .int .i64 D, .int .i64 N]) := hide ((hB1.block _ (Nat.lt_succ_self _)).trans (zu Y2))
     have KQ : Hid (Below w.heap.size w w1) := hide ((zu KY).trans (Below.mono hB1 (by omega)))
     clear hown' hgrow R1 hB1
     go_wp2_with fail
     go_roundw
     case rel =>
      refine ⟨i + 1, by simp, h, ?_, zu Q2, zu KQ⟩
      rw [zu HAi]
      have e : nums (A i ++ [i]) = nums (A i) ++ [(i : Int)] := by simp [nums]
      rw [e, List.length_append]
      exact zu HR1
     case measure => simp only [intOf]; omega
    ·have e1 : ((j : Int) == (i : Int)) = false := beq_eq_false_iff_ne.2 (by omega)
     have hAi : A (i + 1) = A i := by rw [zu HRSi, if_neg (fun q => hij q.2)]
     have HAi := hide hAi
     clear hAi
     go_wp2_with fail
     go_roundw
     case rel => exact ⟨i + 1, by simp, h, by rw [zu HAi]; exact zu Y5, zu Y2, zu KY⟩
     case measure => simp only [intOf]; omega
   ·refine Go.Code.wp_mono (Only.to (fun _ _ h => h)) (on5f (j := 0) (r := ap) (x := px) (y := py) hr (hide ((zu X2).cell (m := 0) rfl)) (hide ((zu X2).cell (m := 1) rfl)) (hide ((zu X2).cell (m := 2) rfl)) (hide ((zu X2).cell (m := 3) rfl)) (hide ((zu X7).cell (m := 0) rfl)) (hide ((zu X7).cell (m := 1) rfl)) (hide fun Xw _ => zu HAPi Xw) (fun Wy hBy => ?_))
    have KY := hide (bc (zu KX) hBy)
    have Y2 := hide ((zu X2).bel hBy)
    have Y5 := hide ((zu X5).below hBy)
    have hAi : A (i + 1) = A i := by rw [zu HRSi, if_neg (fun q => hr ((zu HONi).1 q.1))]
    have HAi := hide hAi
    clear hBy KX X2 X5 X7 HAPi HIXi hAi
    go_wp2_with fail
    go_roundw
    case rel => exact ⟨i + 1, by simp, h, by rw [zu HAi]; exact zu Y5, zu Y2, zu KY⟩
    case measure => simp only [intOf]; omega
  ·obtain rfl : n = i := by omega
   have i1 : ¬ (n : Int) < (n : Int) := by omega
   have iz : decide ((n : Int) < (n : Int)) = false := decide_eq_false i1
   go_wp2_with fail
   go_ret
   exact ⟨_, rfl, by rw [← zu HAL]; exact zu H5, zu HW⟩
end Go.Proofs.Ytdcecfgmfmpeeaa
