/-
  What the laws ask of rows of jobs: how much there is, that one is made of another, that two are the same.
-/
import Derived.Test.YtbgekppggakdoaaPnA
import Derived.Test.YtbgekppggakdoaaStRows
import Derived.Test.YtbgekppggakdoaaAppNew
namespace Go.Proofs.Ytbgekppggakdoaa
open Go.ChangeShapes Go.WideShapes Go.ChangeAt Go.RowKit
set_option linter.unusedVariables false
set_option linter.unusedSimpArgs false

def flat4 (T : List Stp) : List Int := T.flatMap fun s => [s.m, s.t, s.l, s.e]
theorem flat4_len (T : List Stp) : (flat4 T).length = T.length * 4 := by
  induction T with
  | nil => rfl
  | cons s T ih => simp only [flat4, List.flatMap_cons, List.length_append, List.length_cons] at ih ⊢; simp at ih ⊢; omega
theorem flat4_at {T : List Stp} {i : Nat} {s : Stp} (h : T[i]? = some s) : (flat4 T)[i * 4]? = some s.m ∧ (flat4 T)[i * 4 + 1]? = some s.t ∧ (flat4 T)[i * 4 + 2]? = some s.l ∧ (flat4 T)[i * 4 + 3]? = some s.e := by
  induction T generalizing i with
  | nil => cases h
  | cons s' T ih =>
    cases i with
    | zero => simp at h; subst h; simp [flat4]
    | succ i =>
      have := ih (i := i) (by simpa using h)
      have e0 : (i + 1) * 4 = i * 4 + 4 := by omega
      rw [e0]
      refine ⟨?_, ?_, ?_, ?_⟩
      · rw [← this.1]; simp only [flat4, List.flatMap_cons]; rw [List.getElem?_append_right (by simp)]; simp
      · rw [← this.2.1]; simp only [flat4, List.flatMap_cons]; rw [List.getElem?_append_right (by simp)]; simp
      · rw [← this.2.2.1]; simp only [flat4, List.flatMap_cons]; rw [List.getElem?_append_right (by simp)]; simp
      · rw [← this.2.2.2]; simp only [flat4, List.flatMap_cons]; rw [List.getElem?_append_right (by simp)]; simp
theorem flat4_of (n : Nat) (L : List Int) (h : L.length = n * 4) : ∃ T : List Stp, T.length = n ∧ flat4 T = L := by
  induction n generalizing L with
  | zero => exact ⟨[], rfl, by simp at h; rw [h]; rfl⟩
  | succ n ih =>
    rcases L with _ | ⟨a, _ | ⟨b, _ | ⟨c, _ | ⟨d, L⟩⟩⟩⟩ <;> simp at h <;> try omega
    obtain ⟨T, h1, h2⟩ := ih L (by omega)
    exact ⟨⟨a, b, c, d⟩ :: T, by simp [h1], by simp only [flat4, List.flatMap_cons] at h2 ⊢; rw [h2]; rfl⟩
theorem ints_atG {w : World} {p po : Nat} {T : List Stp} (h : IntsAt w p po (flat4 T)) : AtG stc 4 w p po T := by
  intro i s hi j v hj
  obtain ⟨f0, f1, f2, f3⟩ := flat4_at hi
  rcases j with _ | _ | _ | _ | j <;> simp [stc] at hj <;> subst hj
  · exact h.at0 f0
  · exact h.at f1
  · exact h.at f2
  · exact h.at f3
theorem atG_ints {w : World} {p po : Nat} {T : List Stp} (h : AtG stc 4 w p po T) : IntsAt w p po (flat4 T) := by
  intro k x hk
  have hkl : k < T.length * 4 := by have := (List.getElem?_eq_some_iff.1 hk).1; rwa [flat4_len] at this
  have hs : T[k / 4]? = some (T[k / 4]'(by omega)) := List.getElem?_eq_getElem _
  obtain ⟨f0, f1, f2, f3⟩ := flat4_at hs
  have hd : k / 4 * 4 + k % 4 = k := by omega
  have := h _ _ hs (k % 4)
  rw [Nat.add_assoc, hd] at this
  have h4 : k % 4 < 4 := Nat.mod_lt _ (by omega)
  rw [← hd] at hk
  generalize k % 4 = r at *
  generalize T[k / 4] = s at *
  rcases r with _ | _ | _ | _ | r
  · rw [Nat.add_zero, f0] at hk; cases hk; exact this _ rfl
  · rw [f1] at hk; cases hk; exact this _ rfl
  · rw [f2] at hk; cases hk; exact this _ rfl
  · rw [f3] at hk; cases hk; exact this _ rfl
  · omega
theorem Jo.ints {w : World} {j : Jb} (h : Jo w j) : j.sn ≠ 0 → j.su = some ⟨j.sp, j.so, none⟩ ∧ j.sp < w.heap.size ∧ IntsAt w j.sp j.so (flat4 j.st) := by
  intro hn
  have := h.len
  obtain ⟨h1, h2, h3⟩ := h.row (by intro e; rw [e] at this; simp at this; omega)
  exact ⟨h1, h2, atG_ints h3⟩
/-- a job without its place -/
def pl (j : Jb) : Jb := ⟨j.nm, j.due, none, 0, 0, 0, 0, j.st⟩
def Alike (J J' : List Jb) : Prop := J'.map pl = J.map pl
theorem Alike.len {J J' : List Jb} (h : Alike J J') : J'.length = J.length := by have := congrArg List.length h; simpa using this
theorem Alike.trans {J K L : List Jb} (h : Alike J K) (k : Alike K L) : Alike J L := Eq.trans k h
theorem Alike.symm {J K : List Jb} (h : Alike J K) : Alike K J := Eq.symm h
theorem Alike.at {J J' : List Jb} (h : Alike J J') {i : Nat} {j j' : Jb} (hj : J[i]? = some j) (hj' : J'[i]? = some j') : j'.nm = j.nm ∧ j'.due = j.due ∧ j'.st = j.st := by
  have h1 : (J'.map pl)[i]? = (J.map pl)[i]? := by rw [show J'.map pl = J.map pl from h]
  rw [List.getElem?_map, List.getElem?_map, hj, hj'] at h1
  simp only [Option.map_some, Option.some.injEq, pl, Jb.mk.injEq] at h1
  exact ⟨h1.1, h1.2.1, h1.2.2.2.2.2.2.2⟩
theorem shOk_pl (N S L : Int) (J : List Jb) : shOk N S L (J.map pl) = shOk N S L J := by
  have h1 : names (J.map pl) = names J := by simp [names, pl, Function.comp_def]
  have h2 : (J.map pl).all (jbOk N L) = J.all (jbOk N L) := by rw [List.all_map]; rfl
  unfold shOk
  rw [h1, h2, List.length_map]
theorem Alike.shOk {J J' : List Jb} (h : Alike J J') (N S L : Int) : shOk N S L J' = shOk N S L J := by rw [← shOk_pl, ← shOk_pl N S L J, h]
/-- a job that has its steps in a block of its own -/
structure Oj (w : World) (B E : Nat) (j : Jb) : Prop where
  su : j.su = some ⟨j.sp, 0, none⟩
  so : j.so = 0
  ge : B ≤ j.sp
  lt : j.sp < E
  len : j.st.length = j.sn
  most : j.sn ≤ 1048576
  nsz : j.nm.size ≤ maxLen
  blk : iblk w j.sp 61 (flat4 j.st)
theorem Oj.jo {w : World} {B E : Nat} {j : Jb} (h : Oj w B E j) : Jo w j := by
  refine ⟨h.len, by have := h.most; omega, h.nsz, fun _ => ⟨by rw [h.so]; exact h.su, h.blk.lt, ?_⟩⟩
  rw [h.so]
  exact ints_atG h.blk.ints
theorem Oj.bel {w w' : World} {B E : Nat} {j : Jb} (h : Oj w B E j) (hb : Below w.heap.size w w') : Oj w' B E j := ⟨h.su, h.so, h.ge, h.lt, h.len, h.most, h.nsz, h.blk.bel hb⟩
theorem Oj.mono {w : World} {B B' E E' : Nat} {j : Jb} (h : Oj w B E j) (hb : B' ≤ B) (he : E ≤ E') : Oj w B' E' j := ⟨h.su, h.so, Nat.le_trans hb h.ge, Nat.lt_of_lt_of_le h.lt he, h.len, h.most, h.nsz, h.blk⟩
theorem Oj.kept {w w' : World} {B E : Nat} {j : Jb} (h : Oj w B E j) (hb : w'.heap[j.sp]? = w.heap[j.sp]?) : Oj w' B E j := ⟨h.su, h.so, h.ge, h.lt, h.len, h.most, h.nsz, hb.trans h.blk⟩
/-- a row of jobs of one's own, all of it in blocks from B up to E -/
structure Jown (w : World) (B E g : Nat) (J : List Jb) : Prop where
  ge : B ≤ g
  lt : g < E
  blk : vb w g 58 (flatG jc J)
  each : ∀ j ∈ J, Oj w B E j ∧ j.sp ≠ g
theorem jc_len (j : Jb) : (jc j).length = 3 := rfl
theorem Jown.bel {w w' : World} {B E g : Nat} {J : List Jb} (h : Jown w B E g J) (hb : Below w.heap.size w w') : Jown w' B E g J := ⟨h.ge, h.lt, h.blk.bel hb, fun j hj => ⟨(h.each j hj).1.bel hb, (h.each j hj).2⟩⟩
theorem Jown.jbs {w : World} {B E g : Nat} {J : List Jb} (h : Jown w B E g J) : Jbs w (some ⟨g, 0, none⟩) g 0 J := ⟨h.blk.slG jc_len, fun j hj => (h.each j hj).1.jo⟩
theorem Jown.mono {w : World} {B B' E E' g : Nat} {J : List Jb} (h : Jown w B E g J) (hb : B' ≤ B) (he : E ≤ E') : Jown w B' E' g J := ⟨Nat.le_trans hb h.ge, Nat.lt_of_lt_of_le h.lt he, h.blk, fun j hj => ⟨(h.each j hj).1.mono hb he, (h.each j hj).2⟩⟩
set_option maxHeartbeats 1000000 in
theorem jb_conv (j : Jb) (w : World) (hj : Jo w j) (hn : j.sn ≤ 1048576) :
    Calls Try.prog 30 #[.agg #[.string j.nm, .int .i64 j.due, .slice j.su j.sn j.sc]] w fun e w' => (∃ g, e = .returned (.agg #[.string j.nm, .int .i64 j.due, .slice (some ⟨g, 0, none⟩) j.sn j.sn]) ∧ w.heap.size ≤ g ∧ iblk w' g 61 (flat4 j.st)) ∧ Below w.heap.size w w' := by
  have HT := hide (fun W (hW : Below w.heap.size w W) => stp_to j.su j.sp j.so j.sn j.sc (flat4 j.st) W (by rw [flat4_len, hj.len]) hn (hj.bel hW).ints)
  clear hj
  obtain ⟨nm, due, su, sn, sc, sp, so, st⟩ := j
  simp only [] at *
  have HB0 := hide (ba (ba (ba (Below.refl w.heap.size w) (.cells #[.string nm, .int .i64 due, .slice su sn sc] 54)) (.cells #[.string ⟨#[]⟩, .int .i64 0, .slice none 0 0] 58)) (.cells #[.string nm, .int .i64 due, .slice none 0 0] 58))
  go_enter Try.func30, Try.ntmps30
  go_wp2_with fail
  refine (unhide HT _ (unhide HB0)).mono ?_
  rintro e W1 ⟨⟨g, rfl, hg, hblk⟩, hb⟩
  have V1 := ((vb_new (w.alloc (.cells #[.string nm, .int .i64 due, .slice su sn sc] 54)) 58 [.string ⟨#[]⟩, .int .i64 0, .slice none 0 0] (w.heap.size + 1) (by simp)).bel (ba (Below.refl _ _) (.cells #[.string nm, .int .i64 due, .slice none 0 0] 58))).bel hb
  have V2 := (vb_new ((w.alloc (.cells #[.string nm, .int .i64 due, .slice su sn sc] 54)).alloc (.cells #[.string ⟨#[]⟩, .int .i64 0, .slice none 0 0] 58)) 58 [.string nm, .int .i64 due, .slice none 0 0] (w.heap.size + 1 + 1) (by simp)).bel hb
  have a0 := V1.cell (m := 0) rfl
  have a1 := V1.cell (m := 1) rfl
  have a2 := V1.cell (m := 2) rfl
  have b0 := V2.cell (m := 0) rfl
  have b1 := V2.cell (m := 1) rfl
  have b2 := V2.cell (m := 2) rfl
  have f1 : ∀ q, W1.frozen? ⟨w.heap.size + 1, q, none⟩ = false := V1.frozen
  have f2 : ∀ q, W1.frozen? ⟨w.heap.size + 1 + 1, q, none⟩ = false := V2.frozen
  have hg' : w.heap.size + 3 ≤ g := by simpa using hg
  have HG := hide hg'
  have HK := hide hblk
  have HB1 := hide (bc (unhide HB0) hb)
  have HV1 := hide V1
  have HV2 := hide V2
  clear hb hblk hg hg' V1 V2 HB0 HT
  go_wp2_with fail
  have h2 := (unhide HV2).set 2 (.slice (some ⟨g, 0, none⟩) sn sn)
  have h1 := ((((unhide HV1).ne (g' := w.heap.size + 1 + 1) (o := 2) (x := .slice (some ⟨g, 0, none⟩) sn sn) (by omega)).set 0 (.string nm)).set 1 (.int .i64 due)).set 2 (.slice (some ⟨g, 0, none⟩) sn sn)
  simp only [List.set_cons_zero, List.set_cons_succ] at h1
  have z0 := h1.cell (m := 0) rfl
  have z1 := h1.cell (m := 1) rfl
  have z2 := h1.cell (m := 2) rfl
  have HGG := unhide HG
  have q0 := Below.setCell (unhide HB1) (p := ⟨w.heap.size + 1 + 1, 2, none⟩) (by simp only; omega) (.slice (some ⟨g, 0, none⟩) sn sn)
  have q1 := Below.setCell q0 (p := ⟨w.heap.size + 1, 0, none⟩) (by simp only; omega) (.string nm)
  have q2 := Below.setCell q1 (p := ⟨w.heap.size + 1, 1, none⟩) (by simp only; omega) (.int .i64 due)
  have q3 := Below.setCell q2 (p := ⟨w.heap.size + 1, 2, none⟩) (by simp only; omega) (.slice (some ⟨g, 0, none⟩) sn sn)
  have k0 := iblk.ne (g' := w.heap.size + 1) (o := 2) (x := .slice (some ⟨g, 0, none⟩) sn sn) (iblk.ne (g' := w.heap.size + 1) (o := 1) (x := .int .i64 due) (iblk.ne (g' := w.heap.size + 1) (o := 0) (x := .string nm) (iblk.ne (g' := w.heap.size + 1 + 1) (o := 2) (x := .slice (some ⟨g, 0, none⟩) sn sn) (unhide HK) (by omega)) (by omega)) (by omega)) (by omega)
  exact bodyPost_ret (v := .agg #[.string nm, .int .i64 due, .slice (some ⟨g, 0, none⟩) sn sn]) (by simp [results, Try.results30, go_sem, z0, z1, z2]; done) rfl ⟨⟨g, rfl, by omega, k0⟩, q3⟩
def jbz : Jb := ⟨⟨#[]⟩, 0, none, 0, 0, 0, 0, []⟩
/-- cells that make gives: the zero, again and again -/
theorem made_flat {α : Type} {c : α → List Value} {k : Nat} (hk : 0 < k) (hc : ∀ a, (c a).length = k) (z : α) (v : Value) (hv : v.cells = (c z).toArray) (m : Nat) : madeCells v.cells (m * k) = (flatG c (List.replicate m z)).toArray := by
  apply Array.ext
  · simp [madeCells, flatG_len hc]
  · intro i h1 h2
    have hi : i < m * k := by simpa [madeCells] using h1
    have hd : i / k < m := Nat.div_lt_of_lt_mul (by rw [Nat.mul_comm]; exact hi)
    have hr : (List.replicate m z)[i / k]? = some z := by simp [List.getElem?_replicate, hd]
    have hlt : i % k < (c z).length := by rw [hc]; exact Nat.mod_lt _ hk
    have hf := flatG_at hc hr (j := i % k) (v := (c z)[i % k]) (List.getElem?_eq_getElem hlt)
    rw [show i / k * k + i % k = i by rw [Nat.mul_comm]; exact Nat.div_add_mod i k] at hf
    have hx : (flatG c (List.replicate m z))[i]? = some (flatG c (List.replicate m z))[i] := List.getElem?_eq_getElem _
    simp only [madeCells, Array.getElem_map, Array.getElem_range, hv, List.getElem_toArray]
    rw [show (c z).toArray.size = k by simp [hc]]
    show ((c z).toArray)[i % k]! = _
    rw [hx] at hf
    have := Option.some.inj hf
    rw [this, getElem!_pos (c z).toArray (i % k) (by simpa using hlt)]
    simp
theorem jb_info : (Try.prog.info? 58).map (fun i => (i.zero, i.size, i.bytes)) = some (some (.agg #[.string ⟨#[]⟩, .int .i64 0, .slice none 0 0]), 3, 48) := by kernel_rfl
theorem make_jb (n : Nat) (hn : n ≤ 1048576) (W : World) :
    (Instr.makeSlice 29 (.int .i64 (n : Int)) (.int .i64 (n : Int))).run Try.prog W = .ok (.slice (some ⟨W.heap.size, 0, none⟩) n n) (W.alloc (.cells (flatG jc (List.replicate n jbz)).toArray 58)) := by
  obtain ⟨i, hx, h0, h1, h2⟩ := info_parts jb_info
  have := run_make (P := Try.prog) W 29 58 i _ Try.underlying29 hx h0 .i64 .i64 n n (by omega) (by omega) (by rw [h2]; omega) (by omega)
  rw [Int.toNat_natCast, h1, made_flat (c := jc) (by omega) jc_len jbz _ rfl] at this
  exact this
theorem rep_set {α : Type} (K : List α) (m : Nat) (z x : α) (hm : 0 < m) : (K ++ List.replicate m z).set K.length x = (K ++ [x]) ++ List.replicate (m - 1) z := by
  rw [List.set_append, if_neg (by omega), Nat.sub_self]
  obtain ⟨m', rfl⟩ : ∃ m', m = m' + 1 := ⟨m - 1, by omega⟩
  simp [List.replicate_succ]
set_option maxRecDepth 100000 in
set_option maxHeartbeats 4000000 in
theorem jb_to (u : Option Addr) (p po n cu : Nat) (J : List Jb) (w : World) (hl : J.length = n) (hn : n ≤ 1048576) (hs : ∀ j ∈ J, j.sn ≤ 1048576) (hu : Jbs w u p po J) :
    Calls Try.prog 10 #[.slice u n cu] w fun e w' => (∃ g J', e = .returned (.slice (some ⟨g, 0, none⟩) n n) ∧ Alike J J' ∧ Jown w' w.heap.size w'.heap.size g J') ∧ Below w.heap.size w w' := by
  have HU := hide (fun W (hW : Below w.heap.size w W) => hu.bel hW)
  have HL := hide hl
  have HS := hide hs
  clear hu hl hs
  have hmk := fun W => make_jb n hn W
  generalize hzz : flatG jc (List.replicate n jbz) = Z at hmk
  have HZ := hide hzz
  clear hzz
  go_enter Try.func10, Try.ntmps10
  go_wp2_with fail
  have HG := hide (vb_new w 58 Z _ rfl)
  have HB0 := hide (ba (Below.refl w.heap.size w) (.cells Z.toArray 58))
  clear hmk
  go_loopw [4] (fun s W => ∃ (i : Nat) (K : List Jb), s = .int .i64 (i : Int) ∧ i ≤ n ∧ K.length = i ∧ Alike (J.take i) K ∧ vb W w.heap.size 58 (flatG jc (K ++ List.replicate (n - i) jbz)) ∧ (∀ j ∈ K, Oj W w.heap.size W.heap.size j ∧ j.sp ≠ w.heap.size) ∧ Below w.heap.size w W) (fun s _ => n - (intOf s).toNat)
  case atStart =>
    refine ⟨0, [], rfl, Nat.zero_le _, rfl, by simp [Alike], ?_, by simp, unhide HB0⟩
    simp only [List.nil_append, Nat.sub_zero]
    rw [unhide HZ]
    exact unhide HG
  case round =>
    obtain ⟨i, K, rfl, hi, hkl, hal, hb, hek, hw⟩ := hrel
    have HB := hide hb
    have HW := hide hw
    have HKL := hide hkl
    have HAL := hide hal
    have HEK := hide hek
    clear hb hkl hal hek HG HB0
    by_cases h : i < n
    · have i1 : (i : Int) < (n : Int) := by omega
      have i0 : (0 : Int) ≤ (i : Int) := Int.natCast_nonneg _
      have iz : decide ((i : Int) < (n : Int)) = true := decide_eq_true i1
      obtain ⟨j, hx⟩ := get_some (unhide HL) h
      obtain ⟨rfl, pw, k0, k1, k2⟩ := (unhide HU _ hw).at hx
      have HJ := hide ((unhide HU _ hw).each j (List.mem_of_getElem? hx))
      have HSN := hide (unhide HS j (List.mem_of_getElem? hx))
      have HX := hide hx
      clear hx hw
      go_wp2_with fail
      refine (jb_conv j _ (unhide HJ) (unhide HSN)).mono ?_
      rintro e W1 ⟨⟨g, rfl, hg, hblk⟩, hb⟩
      have pb := (unhide HB).bel hb
      have hzi : (K ++ List.replicate (n - i) jbz)[i]? = some jbz := by
        rw [List.getElem?_append_right (by rw [unhide HKL]; omega), unhide HKL, Nat.sub_self, List.getElem?_replicate, if_pos (by omega)]
      have m0 := pb.cell (flatG_at jc_len hzi (j := 0) rfl)
      have m1 := pb.cell (flatG_at jc_len hzi (j := 1) rfl)
      have m2 := pb.cell (flatG_at jc_len hzi (j := 2) rfl)
      simp only [jbz, Nat.add_zero] at m0 m1 m2
      have fz : ∀ q, W1.frozen? ⟨w.heap.size, q, none⟩ = false := pb.frozen
      have PB := hide pb
      have HBB := hide hb
      have HW1 := hide (bc (unhide HW) hb)
      have HGE := hide hg
      have HBK := hide hblk
      clear hb pb hzi hg hblk k0 k1 k2
      go_wp2_with fail
      go_roundw
      case rel =>
        have hlt : w.heap.size < wr.heap.size := (unhide HB).lt
        have hgt := unhide HGE
        have hs2 := (unhide HBB).size
        have r5 : Below w.heap.size w (((W1.setCell ⟨w.heap.size, i * 3, none⟩ (.string j.nm)).setCell ⟨w.heap.size, i * 3 + 1, none⟩ (.int .i64 j.due)).setCell ⟨w.heap.size, i * 3 + 2, none⟩ (.slice (some ⟨g, 0, none⟩) j.sn j.sn)) := Below.setCell (Below.setCell (Below.setCell (unhide HW1) (Nat.le_refl _) _) (Nat.le_refl _) _) (Nat.le_refl _) _
        refine ⟨i + 1, K ++ [⟨j.nm, j.due, some ⟨g, 0, none⟩, j.sn, j.sn, g, 0, j.st⟩], by simp, h, by simp [unhide HKL], ?_, ?_, ?_, r5⟩
        · show (K ++ [_]).map pl = _
          rw [List.take_add_one, unhide HX, List.map_append, show K.map pl = (J.take i).map pl from unhide HAL]
          simp [pl]
        · rw [show n - (i + 1) = (n - i) - 1 by omega, ← rep_set _ _ _ _ (by omega), unhide HKL, flatG_set jc_len _ _ _ (by simp [unhide HKL]; omega)]
          exact (((unhide PB).set (i * 3) (.string j.nm)).set (i * 3 + 1) (.int .i64 j.due)).set (i * 3 + 2) (.slice (some ⟨g, 0, none⟩) j.sn j.sn)
        · have hsz : (((W1.setCell ⟨w.heap.size, i * 3, none⟩ (.string j.nm)).setCell ⟨w.heap.size, i * 3 + 1, none⟩ (.int .i64 j.due)).setCell ⟨w.heap.size, i * 3 + 2, none⟩ (.slice (some ⟨g, 0, none⟩) j.sn j.sn)).heap.size = W1.heap.size := by simp [World.setCell]
          have hk3 : ∀ b, b ≠ w.heap.size → (((W1.setCell ⟨w.heap.size, i * 3, none⟩ (.string j.nm)).setCell ⟨w.heap.size, i * 3 + 1, none⟩ (.int .i64 j.due)).setCell ⟨w.heap.size, i * 3 + 2, none⟩ (.slice (some ⟨g, 0, none⟩) j.sn j.sn)).heap[b]? = W1.heap[b]? := by
            intro b hb
            rw [Below.heap_setCell _ _ _ _ hb, Below.heap_setCell _ _ _ _ hb, Below.heap_setCell _ _ _ _ hb]
          intro x hx
          rw [hsz]
          rcases List.mem_append.1 hx with h1 | h1
          · obtain ⟨o1, o2⟩ := unhide HEK x h1
            exact ⟨((o1.bel (unhide HBB)).mono (Nat.le_refl _) hs2).kept (hk3 _ o2), o2⟩
          · simp only [List.mem_singleton] at h1
            subst h1
            have hbl := unhide HBK
            exact ⟨⟨rfl, rfl, by simp only; omega, hbl.lt, (unhide HJ).len, unhide HSN, (unhide HJ).nsz, (hk3 g (by omega)).trans hbl⟩, by simp only; omega⟩
      case measure => simp only [intOf]; omega
    · have i1 : ¬ (i : Int) < (n : Int) := by omega
      have iz : decide ((i : Int) < (n : Int)) = false := decide_eq_false i1
      have en : n = i := by omega
      subst en
      go_wp2_with fail
      go_ret
      have r1 : Alike J K := by
        have := unhide HAL
        rwa [List.take_of_length_le (by rw [unhide HL]; exact Nat.le_refl _)] at this
      have r2 : vb wr w.heap.size 58 (flatG jc K) := by
        have := unhide HB
        simpa using this
      first
        | exact ⟨⟨_, K, rfl, r1, Nat.le_refl _, (unhide HB).lt, r2, unhide HEK⟩, unhide HW⟩
        | exact ⟨⟨_, rfl, K, r1, Nat.le_refl _, (unhide HB).lt, r2, unhide HEK⟩, unhide HW⟩
set_option maxHeartbeats 1000000 in
theorem jbz_one (j : Jb) (c : Int) (w : World) (hj : Jo w j) (c0 : 0 ≤ c) (c1 : c ≤ 1048576) :
    Calls Try.prog 27 #[.agg #[.string j.nm, .int .i64 j.due, .slice j.su j.sn j.sc], .int .i64 c] w fun e w' => (∃ r : Int, e = .returned (.int .i64 r) ∧ (r = -1 ∨ (0 ≤ r ∧ r ≤ c ∧ (j.sn : Int) ≤ c))) ∧ Below w.heap.size w w' := by
  have hnz := hj.nsz
  have hsm := hj.most
  have s0 : (0 : Int) ≤ (j.nm.size : Int) := Int.natCast_nonneg _
  have n0 : (0 : Int) ≤ (j.sn : Int) := Int.natCast_nonneg _
  have hmx : j.nm.size ≤ 9223372036854775807 := Nat.le_trans hnz (by decide)
  clear hj hnz
  by_cases h1 : c - (j.nm.size : Int) < 0
  · have t1 : decide (c - (j.nm.size : Int) < 0) = true := decide_eq_true h1
    go_enter Try.func27, Try.ntmps27
    go_wp2_with fail
    go_ret
    exact ⟨⟨-1, rfl, .inl rfl⟩, ba (Below.refl _ _) _⟩
  have t1 : decide (c - (j.nm.size : Int) < 0) = false := decide_eq_false h1
  by_cases h2 : c - (j.nm.size : Int) < (j.sn : Int)
  · have HC := hide (fun W => stp_sz_out j.su j.sn j.sc (c - (j.nm.size : Int)) W (by omega) (by omega) h2 hsm)
    clear h2
    go_enter Try.func27, Try.ntmps27
    go_wp2_with fail
    refine (unhide HC _).mono ?_
    rintro e W1 ⟨rfl, rfl⟩
    go_wp2_with fail
    go_ret
    exact ⟨⟨-1, rfl, .inl rfl⟩, ba (Below.refl _ _) _⟩
  · have HC := hide (fun W => stp_sz_in j.su j.sn j.sc (c - (j.nm.size : Int)) W (by omega) (by omega))
    have t3 : decide (c - (j.nm.size : Int) - (j.sn : Int) < 0) = false := decide_eq_false (by omega)
    go_enter Try.func27, Try.ntmps27
    go_wp2_with fail
    refine (unhide HC _).mono ?_
    rintro e W1 ⟨rfl, rfl⟩
    go_wp2_with fail
    go_ret
    exact ⟨⟨c - (j.nm.size : Int) - (j.sn : Int), rfl, .inr ⟨by omega, by omega, by omega⟩⟩, ba (Below.refl _ _) _⟩
set_option maxHeartbeats 1000000 in
theorem jb_sz (u : Option Addr) (p po n cu : Nat) (J : List Jb) (c : Int) (w : World) (hl : J.length = n) (hm : n ≤ 9223372036854775807) (c0 : 0 ≤ c) (c1 : c ≤ 1048576) (hu : Jbs w u p po J) :
    Calls Try.prog 7 #[.slice u n cu, .int .i64 c] w fun e w' => (∃ r : Int, e = .returned (.int .i64 r) ∧ (r = -1 ∨ (0 ≤ r ∧ r ≤ c ∧ (n : Int) ≤ c ∧ ∀ j ∈ J, j.sn ≤ 1048576))) ∧ Below w.heap.size w w' := by
  have HU := hide (fun W (hW : Below w.heap.size w W) => hu.bel hW)
  have HL := hide hl
  clear hu hl
  have n0 : (0 : Int) ≤ (n : Int) := Int.natCast_nonneg _
  by_cases h1 : c - (n : Int) < 0
  · have t1 : decide (c - (n : Int) < 0) = true := decide_eq_true h1
    go_enter Try.func7, Try.ntmps7
    go_wp2_with fail
    go_ret
    exact ⟨⟨-1, rfl, .inl rfl⟩, Below.refl _ _⟩
  have t1 : decide (c - (n : Int) < 0) = false := decide_eq_false h1
  go_enter Try.func7, Try.ntmps7
  go_wp2_with fail
  go_loopw [1, 5] (fun z s W => ∃ (i : Nat) (r : Int), z = .int .i64 r ∧ s = .int .i64 (i : Int) ∧ i ≤ n ∧ 0 ≤ r ∧ r ≤ c ∧ (∀ j ∈ J.take i, j.sn ≤ 1048576) ∧ Below w.heap.size w W) (fun _ s _ => n - (intOf s).toNat)
  case atStart => exact ⟨0, c - (n : Int), rfl, rfl, Nat.zero_le _, by omega, by omega, by simp, Below.refl _ _⟩
  case round =>
    obtain ⟨i, r, rfl, rfl, hi, r0, r1, ha, hb⟩ := hrel
    have HA := hide ha
    have HB := hide hb
    clear ha
    by_cases h : i < n
    · have i1 : (i : Int) < (n : Int) := by omega
      have i0 : (0 : Int) ≤ (i : Int) := Int.natCast_nonneg _
      have iz : decide ((i : Int) < (n : Int)) = true := decide_eq_true i1
      obtain ⟨j, hx⟩ := get_some (unhide HL) h
      obtain ⟨rfl, pw, k0, k1, k2⟩ := (unhide HU _ hb).at hx
      have HC := hide (jbz_one j r wr ((unhide HU _ hb).each j (List.mem_of_getElem? hx)) r0 (by omega))
      have HX := hide hx
      clear hx hb pw
      go_wp2_with fail
      refine (unhide HC).mono ?_
      rintro e W1 ⟨⟨r', rfl, hr⟩, hb⟩
      have HB1 := hide (bc (unhide HB) hb)
      clear hb
      rcases hr with rfl | ⟨q0, q1, q2⟩
      · go_wp2_with fail
        go_ret
        exact ⟨⟨-1, rfl, .inl rfl⟩, unhide HB1⟩
      · have t2 : decide (r' < 0) = false := decide_eq_false (by omega)
        go_wp2_with fail
        go_roundw
        case rel =>
          refine ⟨i + 1, r', rfl, by simp, h, q0, by omega, ?_, unhide HB1⟩
          intro x hx
          rw [List.take_add_one, unhide HX] at hx
          rcases List.mem_append.1 hx with h2 | h2
          · exact unhide HA x h2
          · simp at h2; subst h2; omega
        case measure => simp only [intOf]; omega
    · have iz : decide ((i : Int) < (n : Int)) = false := decide_eq_false (by omega)
      clear hb
      go_wp2_with fail
      go_ret
      refine ⟨⟨r, rfl, .inr ⟨r0, r1, by omega, ?_⟩⟩, unhide HB⟩
      have := unhide HA
      rwa [List.take_of_length_le (by rw [unhide HL]; omega)] at this
set_option maxHeartbeats 1000000 in
theorem jbE_one (a b : Jb) (w : World) (ha : Jo w a) (hb : Jo w b) (h1 : b.nm = a.nm) (h2 : b.due = a.due) (h3 : b.st = a.st) (hn : a.sn ≤ 1048576) :
    Calls Try.prog 35 #[.agg #[.string a.nm, .int .i64 a.due, .slice a.su a.sn a.sc], .agg #[.string b.nm, .int .i64 b.due, .slice b.su b.sn b.sc]] w fun e w' => e = .returned (.bool true) ∧ Below w.heap.size w w' := by
  have en : b.sn = a.sn := by rw [← ha.len, ← hb.len, h3]
  rw [h1, h2, en]
  have HC := hide (fun W (hW : Below w.heap.size w W) => stp_same a.su b.su a.sp a.so b.sp b.so a.sn a.sc b.sc (flat4 a.st) W (by rw [flat4_len, ha.len]) (by omega) (ha.bel hW).ints (by have := (hb.bel hW).ints; rw [en, h3] at this; exact this))
  have HB0 := hide (ba (ba (Below.refl w.heap.size w) (.cells #[.string a.nm, .int .i64 a.due, .slice a.su a.sn a.sc] 58)) (.cells #[.string a.nm, .int .i64 a.due, .slice b.su a.sn b.sc] 58))
  clear ha hb h1 h2 h3 en
  go_enter Try.func35, Try.ntmps35
  go_wp2_with fail
  refine (unhide HC _ (unhide HB0)).mono ?_
  rintro e W1 ⟨rfl, hb⟩
  have HB1 := hide (bc (unhide HB0) hb)
  clear hb
  go_wp2_with fail
  go_ret
  exact ⟨rfl, unhide HB1⟩
end Go.Proofs.Ytbgekppggakdoaa
