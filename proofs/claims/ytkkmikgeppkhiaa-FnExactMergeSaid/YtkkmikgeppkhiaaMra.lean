/-
  Texts in their order. Versions: what was done with a name, which names clash, what a merge is, what is applied. Maps from names to what two lists have of them. Features held against one another. Structs stored as whole rows. Whole features read at once. What is kept of a name: came, lost; its kind; whether a name lacks. What maps of two lists hold, plain. The program's maps of changes: those of another taken out; the same ones taken out. Steps of statements that draw their order. The statement that lays a name of the first list, walked alone. The program's map of two lists. The program's edits, as a map.
-/
import Derived.Test.YtkkmikgeppkhiaaFtMath
import Derived.Test.YtkkmikgeppkhiaaFdM
import Derived.Test.YtkkmikgeppkhiaaChMath
import Derived.Test.YtkkmikgeppkhiaaFoM
import Derived.Test.YtkkmikgeppkhiaaMpF
import Derived.Maps.RangeWalk
import Derived.Maps.OwnSet
import Derived.Maps.Ext
import Derived.Sort.KeysCollected
import Derived.Test.YtkkmikgeppkhiaaGen
import Derived.Deep.WholeRow
import Derived.Deep.RegionLaw
import Derived.Test.YtkkmikgeppkhiaaInv2
namespace Go.Proofs.Ytkkmikgeppkhiaa
open Go.ChangeShapes Go.WideShapes Go.ChangeAt Go.RowKit
set_option linter.unusedVariables false
set_option linter.unusedSimpArgs false

/-- one text ahead of another -/
def tl (a b : ByteArray) : Bool := Op.bytesLess a.toList b.toList
theorem bl_irr : ∀ a : List UInt8, Op.bytesLess a a = false
  | [] => rfl
  | a :: x => by
    unfold Op.bytesLess
    rw [bl_irr x]
    simp
theorem u8_lt_trans {a b c : UInt8} (h : a < b) (k : b < c) : a < c := by
  rw [UInt8.lt_iff_toNat_lt] at *
  omega
theorem u8_tri (a b : UInt8) : a < b ∨ a = b ∨ b < a := by
  rcases Nat.lt_trichotomy a.toNat b.toNat with h | h | h
  · exact .inl (UInt8.lt_iff_toNat_lt.2 h)
  · exact .inr (.inl (UInt8.toNat_inj.1 h))
  · exact .inr (.inr (UInt8.lt_iff_toNat_lt.2 h))
theorem u8_irr (a : UInt8) : ¬ a < a := by
  rw [UInt8.lt_iff_toNat_lt]
  omega
theorem bl_trans : ∀ {a b c : List UInt8}, Op.bytesLess a b = true → Op.bytesLess b c = true → Op.bytesLess a c = true
  | _, [], _, h, _ => by unfold Op.bytesLess at h; cases h
  | _, b :: y, [], _, k => by unfold Op.bytesLess at k; cases k
  | [], b :: y, c :: z, _, _ => by unfold Op.bytesLess; rfl
  | a :: x, b :: y, c :: z, h, k => by
    unfold Op.bytesLess at *
    simp only [Bool.or_eq_true, decide_eq_true_eq, Bool.and_eq_true, beq_iff_eq] at *
    rcases h with h | ⟨rfl, h⟩
    · rcases k with k | ⟨rfl, k⟩
      · exact .inl (u8_lt_trans h k)
      · exact .inl h
    · rcases k with k | ⟨rfl, k⟩
      · exact .inl k
      · exact .inr ⟨rfl, bl_trans h k⟩
theorem bl_tri : ∀ (a b : List UInt8), Op.bytesLess a b = true ∨ a = b ∨ Op.bytesLess b a = true
  | [], [] => .inr (.inl rfl)
  | [], b :: y => .inl (by unfold Op.bytesLess; rfl)
  | a :: x, [] => .inr (.inr (by unfold Op.bytesLess; rfl))
  | a :: x, b :: y => by
    unfold Op.bytesLess
    simp only [Bool.or_eq_true, decide_eq_true_eq, Bool.and_eq_true, beq_iff_eq]
    rcases u8_tri a b with h | rfl | h
    · exact .inl (.inl h)
    · rcases bl_tri x y with h | rfl | h
      · exact .inl (.inr ⟨rfl, h⟩)
      · exact .inr (.inl rfl)
      · exact .inr (.inr (.inr ⟨rfl, h⟩))
    · exact .inr (.inr (.inl h))
theorem bl_lt : ∀ (a b : List UInt8), Op.bytesLess a b = decide (a < b)
  | _, [] => by unfold Op.bytesLess; simp
  | [], b :: y => by unfold Op.bytesLess; simp
  | a :: x, b :: y => by
    unfold Op.bytesLess
    rw [bl_lt x y]
    rw [Bool.eq_iff_iff]
    simp [List.cons_lt_cons_iff]
theorem arr_l (s : ByteArray) : s.toList = s.data.toList := ByteArray.toList_eq s
theorem ba_l {s t : ByteArray} (h : s.toList = t.toList) : s = t := by
  cases s; cases t
  rw [ByteArray.toList_eq, ByteArray.toList_eq] at h
  simp only at h
  rw [Array.toList_inj.1 h]
theorem tl_irr (a : ByteArray) : tl a a = false := bl_irr _
theorem tl_trans {a b c : ByteArray} (h : tl a b = true) (k : tl b c = true) : tl a c = true := bl_trans h k
theorem tl_tri (a b : ByteArray) : tl a b = true ∨ a = b ∨ tl b a = true := by
  rcases bl_tri a.toList b.toList with h | h | h
  · exact .inl h
  · exact .inr (.inl (ba_l h))
  · exact .inr (.inr h)
/-- texts that rise -/
def Rise (l : List ByteArray) : Prop := l.Pairwise fun a b => tl a b = true
theorem rise_uniq : ∀ {a b : List ByteArray}, Rise a → Rise b → (∀ s, s ∈ a ↔ s ∈ b) → a = b
  | [], [], _, _, _ => rfl
  | [], b :: s, _, _, h => by have := (h b).2 (by simp); simp at this
  | a :: r, [], _, _, h => by have := (h a).1 (by simp); simp at this
  | a :: r, b :: s, h1, h2, h => by
    obtain ⟨a1, a2⟩ := List.pairwise_cons.1 h1
    obtain ⟨b1, b2⟩ := List.pairwise_cons.1 h2
    have hab : a = b := by
      rcases List.mem_cons.1 ((h a).1 (by simp)) with e | ha
      · exact e
      · rcases List.mem_cons.1 ((h b).2 (by simp)) with e | hb
        · exact e.symm
        · have := tl_trans (a1 b hb) (b1 a ha)
          rw [tl_irr] at this
          cases this
    subst hab
    rw [rise_uniq a2 b2 fun p => ⟨fun hp => by
      rcases List.mem_cons.1 ((h p).1 (by simp [hp])) with e | hp'
      · have := a1 p hp
        rw [e, tl_irr] at this
        cases this
      · exact hp', fun hp => by
      rcases List.mem_cons.1 ((h p).2 (by simp [hp])) with e | hp'
      · have := b1 p hp
        rw [e, tl_irr] at this
        cases this
      · exact hp'⟩]
/-- how many stand ahead of a text -/
def psn (l : List ByteArray) (s : ByteArray) : Nat := (l.takeWhile fun t => tl t s).length
/-- a text is among texts -/
def hasT (l : List ByteArray) (s : ByteArray) : Bool := l.any fun t => sEq t s
theorem hasT_iff {l : List ByteArray} {s : ByteArray} : hasT l s = true ↔ s ∈ l := by
  unfold hasT
  rw [List.any_eq_true]
  constructor
  · rintro ⟨t, ht, h⟩
    rw [← sEq_iff.1 h]; exact ht
  · intro h; exact ⟨s, h, sEq_refl s⟩
/-- a text put in where it belongs -/
def ins (l : List ByteArray) (s : ByteArray) : List ByteArray := if hasT l s = true then l else l.take (psn l s) ++ s :: l.drop (psn l s)
theorem rise_ins {l : List ByteArray} (h : Rise l) (s : ByteArray) : Rise (ins l s) := by
  unfold ins
  split
  · exact h
  rename_i hs
  rw [hasT_iff] at hs
  induction l with
  | nil => simp [Rise, psn]
  | cons a r ih =>
    obtain ⟨a1, a2⟩ := List.pairwise_cons.1 h
    cases e : tl a s with
    | true =>
      have : psn (a :: r) s = psn r s + 1 := by simp [psn, List.takeWhile_cons, e]
      rw [this, List.take_succ_cons, List.drop_succ_cons, List.cons_append]
      refine List.pairwise_cons.2 ⟨fun b hb => ?_, ih a2 (fun h => hs (List.mem_cons_of_mem _ h))⟩
      rcases List.mem_append.1 hb with hb | hb
      · exact a1 b (List.mem_of_mem_take hb)
      · rcases List.mem_cons.1 hb with rfl | hb
        · exact e
        · exact a1 b (List.mem_of_mem_drop hb)
    | false =>
      have : psn (a :: r) s = 0 := by simp [psn, List.takeWhile_cons, e]
      rw [this]
      have hsa : tl s a = true := by
        rcases tl_tri s a with h | h | h
        · exact h
        · exact (hs (by rw [h]; simp)).elim
        · rw [e] at h; cases h
      refine List.pairwise_cons.2 ⟨fun b hb => ?_, h⟩
      rcases List.mem_cons.1 hb with rfl | hb
      · exact hsa
      · exact tl_trans hsa (a1 b hb)
theorem mem_ins {l : List ByteArray} {s t : ByteArray} : t ∈ ins l s ↔ t = s ∨ t ∈ l := by
  unfold ins
  split
  · rename_i h
    rw [hasT_iff] at h
    constructor
    · exact .inr
    · rintro (rfl | h')
      · exact h
      · exact h'
  · rw [List.mem_append, List.mem_cons]
    constructor
    · rintro (h | h | h)
      · exact .inr (List.mem_of_mem_take h)
      · exact .inl h
      · exact .inr (List.mem_of_mem_drop h)
    · rintro (h | h)
      · exact .inr (.inl h)
      · rw [← List.take_append_drop (psn l s) l] at h
        rcases List.mem_append.1 h with h | h
        · exact .inl h
        · exact .inr (.inr h)
/-- texts sorted, each once -/
def srt (l : List ByteArray) : List ByteArray := l.foldl ins []
theorem srt_go : ∀ (l acc : List ByteArray), Rise acc → Rise (l.foldl ins acc) ∧ ∀ s, s ∈ l.foldl ins acc ↔ s ∈ acc ∨ s ∈ l
  | [], acc, h => ⟨h, fun s => by simp⟩
  | a :: l, acc, h => by
    obtain ⟨h1, h2⟩ := srt_go l (ins acc a) (rise_ins h a)
    refine ⟨h1, fun s => ?_⟩
    show s ∈ l.foldl ins (ins acc a) ↔ _
    rw [h2, mem_ins, List.mem_cons]
    constructor
    · rintro ((h | h) | h)
      · exact .inr (.inl h)
      · exact .inl h
      · exact .inr (.inr h)
    · rintro (h | h | h)
      · exact .inl (.inr h)
      · exact .inl (.inl h)
      · exact .inr h
theorem srt_rise (l : List ByteArray) : Rise (srt l) := (srt_go l [] List.Pairwise.nil).1
theorem mem_srt {l : List ByteArray} {s : ByteArray} : s ∈ srt l ↔ s ∈ l := by
  unfold srt
  rw [(srt_go l [] List.Pairwise.nil).2 s]
  simp
end Go.Proofs.Ytkkmikgeppkhiaa

namespace Go.Proofs.Ytkkmikgeppkhiaa
open Go.ChangeShapes Go.WideShapes Go.ChangeAt Go.RowKit
set_option linter.unusedVariables false
set_option linter.unusedSimpArgs false

/-- two features are the same -/
def fE (f g : Ft) : Bool := sEq f.nm g.nm && sEq f.on g.on && sEq f.ov g.ov && (f.kd == g.kd) && (f.sd == g.sd) && (f.x0 == g.x0) && (f.y0 == g.y0) && (f.z0 == g.z0) && (f.x1 == g.x1) && (f.y1 == g.y1) && (f.z1 == g.z1) && (f.ct == g.ct) && (f.dx == g.dx) && (f.dy == g.dy) && (f.dz == g.dz)
theorem fE_iff {f g : Ft} : fE f g = true ↔ f = g := by
  obtain ⟨a1, a2, a3, a4, a5, a6, a7, a8, a9, a10, a11, a12, a13, a14, a15⟩ := f
  obtain ⟨b1, b2, b3, b4, b5, b6, b7, b8, b9, b10, b11, b12, b13, b14, b15⟩ := g
  unfold fE
  simp only [Bool.and_eq_true, sEq_iff, beq_iff_eq, Ft.mk.injEq, and_assoc]
theorem fE_refl (f : Ft) : fE f f = true := fE_iff.2 rfl
theorem fE_ne {f g : Ft} (h : f ≠ g) : fE f g = false := by rw [← Bool.not_eq_true, fE_iff]; exact h
/-- the feature of a name -/
def gtF (fs : List Ft) (s : ByteArray) : Option Ft := (findN fs s).map fun k => fs.getD k ft0
theorem gt_mem {fs : List Ft} {s : ByteArray} {f : Ft} (h : gtF fs s = some f) : f ∈ fs ∧ f.nm = s := by
  unfold gtF at h
  cases e : findN fs s with
  | none => rw [e] at h; cases h
  | some k =>
    rw [e] at h
    obtain ⟨g, hg, hn⟩ := findN_at e
    simp only [Option.map_some, Option.some.injEq] at h
    rw [getD_at hg] at h
    subst h
    exact ⟨List.mem_of_getElem? hg, hn⟩
theorem gt_none {fs : List Ft} {s : ByteArray} : gtF fs s = none ↔ ∀ f ∈ fs, f.nm ≠ s := by
  unfold gtF
  rw [Option.map_eq_none_iff]
  unfold findN
  rw [List.findIdx?_eq_none_iff]
  constructor
  · intro h f hf e
    have := h f hf
    rw [e, sEq_refl] at this
    cases this
  · intro h f hf
    exact sEq_ne (h f hf)
/-- names that differ -/
def Dif (fs : List Ft) : Prop := fs.Pairwise fun f g => f.nm ≠ g.nm
theorem Dif.uniq {fs : List Ft} (h : Dif fs) {f g : Ft} (hf : f ∈ fs) (hg : g ∈ fs) (e : f.nm = g.nm) : f = g := by
  induction fs with
  | nil => cases hf
  | cons a l ih =>
    obtain ⟨h1, h2⟩ := List.pairwise_cons.1 h
    rcases List.mem_cons.1 hf with rfl | hf2
    · rcases List.mem_cons.1 hg with rfl | hg2
      · rfl
      · exact (h1 g hg2 e).elim
    · rcases List.mem_cons.1 hg with rfl | hg2
      · exact (h1 f hf2 e.symm).elim
      · exact ih h2 hf2 hg2
theorem gt_of {fs : List Ft} (h : Dif fs) {f : Ft} (hf : f ∈ fs) : gtF fs f.nm = some f := by
  cases e : gtF fs f.nm with
  | none => exact (gt_none.1 e f hf rfl).elim
  | some g =>
    obtain ⟨h1, h2⟩ := gt_mem e
    rw [h.uniq h1 hf h2]
theorem twi_dif {fs : List Ft} (h : twi fs = none) : Dif fs := by
  unfold twi at h
  rw [Option.map_eq_none_iff, List.find?_eq_none] at h
  unfold Dif
  rw [List.pairwise_iff_getElem]
  intro i j hi hj hij e
  have := h j (List.mem_range.2 hj)
  apply this
  rw [List.any_eq_true]
  refine ⟨fs[i], ?_, ?_⟩
  · rw [List.mem_take_iff_getElem]
    exact ⟨i, by omega, rfl⟩
  · rw [getD_at (List.getElem?_eq_getElem hj), e, sEq_refl]
/-- what was done with a name -/
def knd (B L : List Ft) (s : ByteArray) : Int :=
  match gtF B s, gtF L s with
  | none, none => 0
  | none, some _ => 1
  | some _, none => 2
  | some a, some b => if fE a b = true then 0 else 3
theorem knd_zero {B L : List Ft} {s : ByteArray} : knd B L s = 0 ↔ gtF B s = gtF L s := by
  unfold knd
  cases gtF B s with
  | none =>
    cases gtF L s with
    | none => simp
    | some b => simp
  | some a =>
    cases gtF L s with
    | none => simp
    | some b =>
      simp only [Option.some.injEq]
      split
      · rename_i h; exact ⟨fun _ => fE_iff.1 h, fun _ => rfl⟩
      · rename_i h; exact ⟨fun h => (by cases h), fun k => (h (fE_iff.2 k)).elim⟩
theorem knd_range (B L : List Ft) (s : ByteArray) : knd B L s = 0 ∨ knd B L s = 1 ∨ knd B L s = 2 ∨ knd B L s = 3 := by
  unfold knd
  split
  · exact .inl rfl
  · exact .inr (.inl rfl)
  · exact .inr (.inr (.inl rfl))
  · split
    · exact .inl rfl
    · exact .inr (.inr (.inr rfl))
/-- all names of which something is true, rising -/
def Nms (P : ByteArray → Prop) (ns : List ByteArray) : Prop := Rise ns ∧ ∀ s, s ∈ ns ↔ P s
theorem Nms.uniq {P : ByteArray → Prop} {a b : List ByteArray} (h : Nms P a) (k : Nms P b) : a = b :=
  rise_uniq h.1 k.1 fun s => (h.2 s).trans (k.2 s).symm
theorem Nms.filter {P Q : ByteArray → Prop} {p : ByteArray → Bool} {ns : List ByteArray} (h : Nms P ns) (hq : ∀ s, Q s ↔ P s ∧ p s = true) : Nms Q (ns.filter p) := by
  refine ⟨h.1.filter _, fun s => ?_⟩
  rw [List.mem_filter, h.2, hq]
/-- what Edits tells -/
def EdL (B L : List Ft) (es : List (Int × ByteArray)) : Prop := ∃ ns, Nms (fun s => knd B L s ≠ 0) ns ∧ es = ns.map fun s => (knd B L s, s)
theorem EdL.uniq {B L : List Ft} {a b : List (Int × ByteArray)} (h : EdL B L a) (k : EdL B L b) : a = b := by
  obtain ⟨n, h1, rfl⟩ := h
  obtain ⟨m, k1, rfl⟩ := k
  rw [h1.uniq k1]
/-- the first fault of versions -/
def Vg : List (List Ft) → Int → Prop
  | [], c => c = 0
  | l :: ls, c => ∃ k ab, Chk l k ab ∧ ((k = 0 ∧ Vg ls c) ∨ (k ≠ 0 ∧ c = k))
/-- what is wrong with versions -/
def Vc (ls : List (List Ft)) (c : Int) : Prop := ((∃ l ∈ ls, 4096 < l.length) ∧ c = 2) ∨ ((∀ l ∈ ls, l.length ≤ 4096) ∧ Vg ls c)
/-- an answer of Edits -/
def EdAns (B L : List Ft) (es : List (Int × ByteArray)) (c : Int) : Prop := Vc [B, L] c ∧ if c = 0 then EdL B L es else es = []
theorem Vg.uniq : ∀ {ls : List (List Ft)} {c d : Int}, Vg ls c → Vg ls d → c = d
  | [], c, d, h, k => by rw [show c = 0 from h, show d = 0 from k]
  | l :: ls, c, d, h, k => by
    obtain ⟨k1, a1, h1, h2⟩ := h
    obtain ⟨k2, a2, g1, g2⟩ := k
    have := (h1.uniq g1).1
    subst this
    rcases h2 with ⟨e, h2⟩ | ⟨e, h2⟩
    · rcases g2 with ⟨_, g2⟩ | ⟨f, _⟩
      · exact h2.uniq g2
      · exact (f e).elim
    · rcases g2 with ⟨f, _⟩ | ⟨_, g2⟩
      · exact (e f).elim
      · rw [h2, g2]
theorem Vc.uniq {ls : List (List Ft)} {c d : Int} (h : Vc ls c) (k : Vc ls d) : c = d := by
  rcases h with ⟨⟨l, hl, h1⟩, h2⟩ | ⟨h1, h2⟩
  · rcases k with ⟨_, k2⟩ | ⟨k1, _⟩
    · rw [h2, k2]
    · have := k1 l hl; omega
  · rcases k with ⟨⟨l, hl, k1⟩, _⟩ | ⟨_, k2⟩
    · have := h1 l hl; omega
    · exact h2.uniq k2
theorem EdAns.uniq {B L : List Ft} {a b : List (Int × ByteArray)} {c d : Int} (h : EdAns B L a c) (k : EdAns B L b d) : a = b ∧ c = d := by
  have e := h.1.uniq k.1
  subst e
  refine ⟨?_, rfl⟩
  have h2 := h.2
  have k2 := k.2
  split at h2
  · rename_i e; rw [if_pos e] at k2; exact h2.uniq k2
  · rename_i e; rw [if_neg e] at k2; rw [h2, k2]
theorem vc_long {ls : List (List Ft)} (h : ∃ l ∈ ls, 4096 < l.length) : Vc ls 2 := .inl ⟨h, rfl⟩
/-- no fault in versions: each is right -/
theorem Vg.zero : ∀ {ls : List (List Ft)}, Vg ls 0 → ∀ l ∈ ls, Fine l
  | [], _, l, hl => by cases hl
  | a :: ls, h, l, hl => by
    obtain ⟨k, ab, h1, h2⟩ := h
    rcases h2 with ⟨rfl, h2⟩ | ⟨e, h2⟩
    · rcases List.mem_cons.1 hl with rfl | hl
      · exact h1.zero.1
      · exact h2.zero l hl
    · exact (e h2.symm).elim
theorem Vc.zero {ls : List (List Ft)} (h : Vc ls 0) : ∀ l ∈ ls, Fine l := by
  rcases h with ⟨_, h⟩ | ⟨_, h⟩
  · cases h
  · exact h.zero
theorem Fine.dif {fs : List Ft} (h : Fine fs) : Dif fs := twi_dif h.once
theorem Fine.nm0 {fs : List Ft} (h : Fine fs) {f : Ft} (hf : f ∈ fs) : f ≠ ft0 := by
  intro e
  have := h.right f hf
  rw [e] at this
  revert this
  decide
end Go.Proofs.Ytkkmikgeppkhiaa

namespace Go.Proofs.Ytkkmikgeppkhiaa
open Go.ChangeShapes Go.WideShapes Go.ChangeAt Go.RowKit Go.Maps Go.WideMaps
set_option linter.unusedVariables false
set_option linter.unusedSimpArgs false

theorem keyL_same {s t : ByteArray} : (keyL s).sameKey (keyL t) = sEq s t := by
  cases e : sEq s t with
  | true => rw [sEq_iff.1 e]; exact WideAt.sameKey_self (keyL_key t)
  | false =>
    refine sameKey_ne fun h => ?_
    rw [keyL_inj h, sEq_refl] at e
    cases e
/-- what a map has of a name: what both lists have -/
abbrev Two := Ft × Ft
def bothV (p : Two) : Value := .agg #[.string p.1.nm, .string p.1.on, .string p.1.ov, .int .i64 p.1.kd, .int .i64 p.1.sd, .int .i64 p.1.x0, .int .i64 p.1.y0, .int .i64 p.1.z0, .int .i64 p.1.x1, .int .i64 p.1.y1, .int .i64 p.1.z1, .int .i64 p.1.ct, .int .i64 p.1.dx, .int .i64 p.1.dy, .int .i64 p.1.dz, .string p.2.nm, .string p.2.on, .string p.2.ov, .int .i64 p.2.kd, .int .i64 p.2.sd, .int .i64 p.2.x0, .int .i64 p.2.y0, .int .i64 p.2.z0, .int .i64 p.2.x1, .int .i64 p.2.y1, .int .i64 p.2.z1, .int .i64 p.2.ct, .int .i64 p.2.dx, .int .i64 p.2.dy, .int .i64 p.2.dz]
theorem bothV_inj {p q : Two} (h : bothV p = bothV q) : p = q := by
  obtain ⟨⟨a1, a2, a3, a4, a5, a6, a7, a8, a9, a10, a11, a12, a13, a14, a15⟩, ⟨b1, b2, b3, b4, b5, b6, b7, b8, b9, b10, b11, b12, b13, b14, b15⟩⟩ := p
  obtain ⟨⟨c1, c2, c3, c4, c5, c6, c7, c8, c9, c10, c11, c12, c13, c14, c15⟩, ⟨d1, d2, d3, d4, d5, d6, d7, d8, d9, d10, d11, d12, d13, d14, d15⟩⟩ := q
  simp only [bothV, Value.agg.injEq, Array.mk.injEq, List.cons.injEq, Value.string.injEq, Value.int.injEq, true_and, and_true] at h
  obtain ⟨rfl, rfl, rfl, rfl, rfl, rfl, rfl, rfl, rfl, rfl, rfl, rfl, rfl, rfl, rfl, rfl, rfl, rfl, rfl, rfl, rfl, rfl, rfl, rfl, rfl, rfl, rfl, rfl, rfl, rfl⟩ := h
  rfl
open Classical in
noncomputable def Rb (v : Value) : Option (DataW Two × List MemPlace) := if h : ∃ p, v = bothV p then some (.held (Classical.choose h), []) else none
theorem Rb_of (p : Two) : Rb (bothV p) = some (.held p, []) := by
  unfold Rb
  have h : ∃ q, bothV p = bothV q := ⟨p, rfl⟩
  rw [dif_pos h, ← bothV_inj (Classical.choose_spec h)]
theorem Rb_inv {v : Value} {z : DataW Two × List MemPlace} (h : Rb v = some z) : ∃ p, v = bothV p ∧ z = (.held p, []) := by
  unfold Rb at h
  split at h
  · rename_i k
    cases h
    exact ⟨_, Classical.choose_spec k, rfl⟩
  · cases h
def p0 : Two := (ft0, ft0)
/-- block b is a map that has what f says -/
def Dat (D : DataW Two) (f : ByteArray → Option Two) : Prop := ∀ s, has D (keyL s) = (f s).isSome ∧ ∀ p, f s = some p → ∀ z, D.atKey (keyL s) z = .held p
def Mp (w : World) (b n : Nat) (f : ByteArray → Option Two) : Prop := ∃ D, w.ownsMap Try.prog 9 Rb b n D ∧ Dat D f
/-- one more, or another one -/
def up (f : ByteArray → Option Two) (s : ByteArray) (p : Two) (t : ByteArray) : Option Two := if sEq s t then some p else f t
/-- one less -/
def dn (f : ByteArray → Option Two) (s : ByteArray) (t : ByteArray) : Option Two := if sEq s t then none else f t
theorem Dat.empty : Dat (.map []) fun _ => none := fun s => ⟨rfl, fun p h => by cases h⟩
theorem Dat.put {D : DataW Two} {f : ByteArray → Option Two} (h : Dat D f) (hm : IsMap D) (s : ByteArray) (p : Two) : Dat (D.put (keyL s) (.held p)) (up f s p) := by
  intro t
  unfold up
  cases e : sEq s t with
  | true =>
    rw [← sEq_iff.1 e]
    refine ⟨by rw [has_put_same hm (keyL_key s)]; rfl, fun q hq z => ?_⟩
    rw [atKey_put_same hm (keyL_key s)]
    simp only [if_true, Option.some.injEq] at hq
    rw [hq]
  | false =>
    have hne : keyL t ≠ keyL s := fun h => by rw [keyL_inj h, sEq_refl] at e; cases e
    refine ⟨by rw [has_put_other hne]; exact (h t).1, fun q hq z => ?_⟩
    rw [atKey_put_other hne]
    exact (h t).2 q hq z
theorem Dat.del {D : DataW Two} {f : ByteArray → Option Two} (h : Dat D f) (s : ByteArray) : Dat (D.del (keyL s)) (dn f s) := by
  intro t
  unfold dn
  cases e : sEq s t with
  | true =>
    rw [← sEq_iff.1 e]
    exact ⟨by rw [has_del_same]; rfl, fun q hq z => by simp at hq⟩
  | false =>
    have hne : keyL t ≠ keyL s := fun h => by rw [keyL_inj h, sEq_refl] at e; cases e
    refine ⟨by rw [has_del_other hne]; exact (h t).1, fun q hq z => ?_⟩
    rw [atKey_del_other hne]
    exact (h t).2 q hq z
theorem Dat.at0 {D : DataW Two} {f : ByteArray → Option Two} (h : Dat D f) (s : ByteArray) : D.atKey (keyL s) (.held p0) = .held ((f s).getD p0) := by
  cases e : f s with
  | some p => exact (h s).2 p e _
  | none =>
    have := (h s).1
    rw [e] at this
    rw [atKey_of_not_has this]
    rfl
theorem Mp.lt {w : World} {b n : Nat} {f : ByteArray → Option Two} (h : Mp w b n f) : b < w.heap.size := by
  obtain ⟨D, h, _⟩ := h
  exact h.lt
theorem Mp.blk {w w' : World} {b n : Nat} {f : ByteArray → Option Two} (h : Mp w b n f) (hb : w'.heap[b]? = w.heap[b]?) : Mp w' b n f := by
  obtain ⟨D, ⟨es, clock, hb', r⟩, hd⟩ := h
  exact ⟨D, ⟨es, clock, hb.trans hb', r⟩, hd⟩
theorem Mp.bel {w w' : World} {b n : Nat} {f : ByteArray → Option Two} (h : Mp w b n f) (hb : Below w.heap.size w w') : Mp w' b n f := h.blk (hb.block b h.lt)
theorem Mp.mono {w : World} {b n m : Nat} {f : ByteArray → Option Two} (h : Mp w b n f) (hm : n ≤ m) : Mp w b m f := by
  obtain ⟨D, h, hd⟩ := h
  exact ⟨D, h.mono hm, hd⟩
theorem Mp.congr {w : World} {b n : Nat} {f g : ByteArray → Option Two} (h : Mp w b n f) (hg : ∀ s, f s = g s) : Mp w b n g := by
  have : f = g := funext hg
  rw [← this]; exact h
theorem zero68 (w : World) : (zeroValue 68).run Try.prog w = .ok (bothV p0) w := by
  simp [go_sem, bothV, p0, ft0]
  rfl
theorem und60 : Try.prog.underlying 60 = some (.map 9 68) := Try.underlying60
theorem und61 : Try.prog.underlying 61 = some (.map 9 68) := Try.underlying61
theorem Mp.made (w : World) : Mp (w.alloc (.map #[] 0)) w.heap.size 0 fun _ => none := ⟨_, World.ownsMap_made w Try.prog 9 Rb, Dat.empty⟩
theorem Mp.look {w : World} {b n : Nat} {f : ByteArray → Option Two} (h : Mp w b n f) (s : ByteArray) (hs : s.size ≤ maxLen) :
    (Instr.lookup 61 (.map (some b)) (.string s) true).run Try.prog w = .ok (.tuple #[bothV ((f s).getD p0), .bool (f s).isSome]) w := by
  obtain ⟨D, h, hd⟩ := h
  obtain ⟨v, ps, hrun, hv⟩ := World.ownsMap.look_ok (t := 61) (e := 68) h lawK und61 (zero68 w) (Rb_of p0) (key := .string s) (kl := keyL s) (keyOf_string_mk Try.underlying9 hs)
  obtain ⟨q, rfl, hq⟩ := Rb_inv hv
  rw [hd.at0] at hq
  simp only [Prod.mk.injEq, DataW.held.injEq] at hq
  rw [hrun, (hd s).1, hq.1]
theorem Mp.get {w : World} {b n t : Nat} {f : ByteArray → Option Two} (h : Mp w b n f) (ht : Try.prog.underlying t = some (.map 9 68)) (s : ByteArray) (hs : s.size ≤ maxLen) :
    (Instr.lookup t (.map (some b)) (.string s) false).run Try.prog w = .ok (bothV ((f s).getD p0)) w := by
  obtain ⟨D, h, hd⟩ := h
  obtain ⟨v, ps, hrun, hv⟩ := World.ownsMap.lookup (t := t) (e := 68) h lawK ht (zero68 w) (Rb_of p0) (key := .string s) (kl := keyL s) (keyOf_string_mk Try.underlying9 hs)
  obtain ⟨q, rfl, hq⟩ := Rb_inv hv
  rw [hd.at0] at hq
  simp only [Prod.mk.injEq, DataW.held.injEq] at hq
  rw [hrun, hq.1]
theorem Mp.store {w : World} {b n t : Nat} {f : ByteArray → Option Two} (h : Mp w b n f) (ht : Try.prog.underlying t = some (.map 9 68)) (hn : n < maxLen) (s : ByteArray) (hs : s.size ≤ maxLen) (p : Two) :
    ∃ w', (Instr.mapUpdate t (.map (some b)) (.string s) (bothV p)).run Try.prog w = .ok () w' ∧ Mp w' b (n + 1) (up f s p) ∧ w.mapTurned w' b := by
  obtain ⟨D, h, hd⟩ := h
  obtain ⟨w', h1, h2, h3⟩ := h.store lawK ht hn (keyOf_string_mk Try.underlying9 hs) (Rb_of p)
  exact ⟨w', h1, ⟨_, h2, hd.put h.isMap s p⟩, h3⟩
/-- a range under way -/
def Rg (w : World) (b r n : Nat) (f : ByteArray → Option Two) (left : ByteArray → Bool) (cnt : Nat) : Prop := ∃ D lf, w.ranges Try.prog 9 Rb b r n D lf cnt ∧ Dat D f ∧ ∀ s, lf (keyL s) = left s
theorem Rg.map {w : World} {b r n cnt : Nat} {f : ByteArray → Option Two} {left : ByteArray → Bool} (h : Rg w b r n f left cnt) : Mp w b n f := by
  obtain ⟨D, lf, h, hd, _⟩ := h
  exact ⟨D, h.owns, hd⟩
theorem Rg.lt {w : World} {b r n cnt : Nat} {f : ByteArray → Option Two} {left : ByteArray → Bool} (h : Rg w b r n f left cnt) : r < w.heap.size := by
  obtain ⟨D, lf, h, hd, _⟩ := h
  exact h.lt
theorem Rg.ne {w : World} {b r n cnt : Nat} {f : ByteArray → Option Two} {left : ByteArray → Bool} (h : Rg w b r n f left cnt) : r ≠ b := by
  obtain ⟨D, lf, h, hd, _⟩ := h
  exact h.ne
theorem Rg.blk {w w' : World} {b r n cnt : Nat} {f : ByteArray → Option Two} {left : ByteArray → Bool} (h : Rg w b r n f left cnt) (h1 : w'.heap[b]? = w.heap[b]?) (h2 : w'.heap[r]? = w.heap[r]?) : Rg w' b r n f left cnt := by
  obtain ⟨D, lf, ⟨es, clock, since, seen, c0, hb, F, hs, hD, hr, rest⟩, hd, hl⟩ := h
  exact ⟨D, lf, ⟨es, clock, since, seen, c0, h1.trans hb, F, hs, hD, h2.trans hr, rest⟩, hd, hl⟩
theorem Rg.bel {w w' : World} {b r n cnt : Nat} {f : ByteArray → Option Two} {left : ByteArray → Bool} (h : Rg w b r n f left cnt) (hb : Below w.heap.size w w') : Rg w' b r n f left cnt := h.blk (hb.block b h.map.lt) (hb.block r h.lt)
theorem Rg.left_eq {w : World} {b r n cnt : Nat} {f : ByteArray → Option Two} {left : ByteArray → Bool} (h : Rg w b r n f left cnt) : w.rangeLeft b r = cnt := by
  obtain ⟨D, lf, h, _, _⟩ := h
  exact h.left_eq
section
variable (w : World) {ops : Array Oper} {rest : List Oper} {o : Oper} {a : Act} {Q : Exit → Act → World → Prop}
/-- a range begun -/
theorem wpl_rangeB (hg : o.guard = none) (m : Operand) (t : TypeId) (hop : o.op = Op.range t m) (ht : Try.prog.underlying t = some (.map 9 68)) (b n : Nat) (f : ByteArray → Option Two)
    (hm : a.eval m = .map (some b)) (h : Mp w b n f)
    (hK : ∀ w' cnt, Rg w' b w.heap.size n f (fun s => (f s).isSome) cnt → w.grownBy w' none → w'.heap.size = w.heap.size + 1 → wpList Try.prog ops Q rest (a.put o.dst (.pointer (some ⟨w.heap.size, 0, none⟩))) w') :
    wpList Try.prog ops Q (o :: rest) a w := by
  obtain ⟨D, h, hd⟩ := h
  refine wpList_range_own w hg m t hop 9 68 lawK ht Rb b n D hm h ?_
  intro w' h1 h2 h3
  exact hK w' _ ⟨D, _, h1, hd, fun s => (hd s).1⟩ h2 h3
/-- its next one -/
theorem wpl_nextB (hg : o.guard = none) (it : Operand) (hop : o.op = Op.next it false) (b r n : Nat) (f : ByteArray → Option Two) (left : ByteArray → Bool) (cnt : Nat)
    (hit : a.eval it = .pointer (some ⟨r, 0, none⟩)) (h : Rg w b r n f left cnt)
    (hDone : (∀ s, left s = false) → wpList Try.prog ops Q rest (a.put o.dst (.tuple #[.bool false])) w)
    (hMore : ∀ (s : ByteArray) (p : Two) (w' : World) (cnt' : Nat), s.size ≤ maxLen → left s = true → f s = some p → Rg w' b r n f (fun t => left t && !sEq s t) cnt' → cnt' < cnt →
      w.grownBy w' (some r) → w'.heap.size = w.heap.size → (Instr.entry (.pointer (some ⟨r, 0, none⟩))).run Try.prog w' = .ok (.tuple #[.string s, bothV p]) w' → wpList Try.prog ops Q rest (a.put o.dst (.tuple #[.bool true, .string s, bothV p])) w') :
    wpList Try.prog ops Q (o :: rest) a w := by
  obtain ⟨D, lf, h, hd, hl⟩ := h
  refine wpList_next_ranges w hg it hop 9 lawK Rb Value.string bothV (fun key kl hk => by obtain ⟨x, hx, _⟩ := Maps.keyOf_str Try.underlying9 hk; exact ⟨⟨x.toArray⟩, hx⟩) (fun v y hv => by obtain ⟨p, h1, _⟩ := Rb_inv hv; exact ⟨p, h1⟩) b r n D lf cnt hit h ?_ ?_
  · intro h0 hno
    exact hDone fun s => by rw [← hl s]; exact hno _
  · intro x c kl y w' cnt' hkey hlk hv hat hrg hlt hgr hsz hen
    obtain ⟨x', ex, hkl, hxs⟩ := Maps.keyOf_str Try.underlying9 hkey
    have ex2 : x = ⟨x'.toArray⟩ := by injection ex
    subst ex2
    obtain ⟨p, e1, e2⟩ := Rb_inv hv
    have e3 := bothV_inj e1
    subst e3
    have hk : kl = keyL ⟨x'.toArray⟩ := by rw [hkl]; simp [keyL]
    subst hk
    have hxz : (⟨x'.toArray⟩ : ByteArray).size ≤ maxLen := by simpa [ByteArray.size] using hxs
    clear hkl hxs ex
    generalize (⟨x'.toArray⟩ : ByteArray) = x at *
    have hf : f x = some c := by
      have hh : has D (keyL x) = true := has_true_of_atKey hat
      rw [(hd x).1, Option.isSome_iff_exists] at hh
      obtain ⟨q, hq⟩ := hh
      have h1 := (hd x).2 q hq (.held p0)
      rw [hat, e2] at h1
      simp only [DataW.held.injEq] at h1
      rw [hq, h1]
    refine hMore x c w' cnt' hxz (by rw [← hl x]; exact hlk) hf ⟨D, _, hrg, hd, fun s => ?_⟩ hlt hgr hsz hen
    show (lf (keyL s) && !(keyL s).sameKey (keyL x)) = _
    rw [hl s, keyL_same]
    have : sEq s x = sEq x s := by
      rw [Bool.eq_iff_iff, sEq_iff, sEq_iff]
      exact eq_comm
    rw [this]
/-- an entry taken out in a round -/
theorem wpl_delB (hg : o.guard = none) (m x : Operand) (t : TypeId) (hop : o.op = Op.call { callee := Callee.builtin Builtin.delete, args := #[m, x], argTypes := #[t, 9] })
    (ht : Try.prog.underlying t = some (.map 9 68)) (b r n : Nat) (f : ByteArray → Option Two) (left : ByteArray → Bool) (cnt : Nat)
    (hm : a.eval m = .map (some b)) (h : Rg w b r n f left cnt) (s : ByteArray) (hx : a.eval x = .string s) (hs : s.size ≤ maxLen) (hls : left s = false)
    (hK : ∀ w' cnt', Rg w' b r n (dn f s) left cnt' → cnt' ≤ cnt → w.mapTurned w' b → wpList Try.prog ops Q rest (a.put o.dst (.tuple #[])) w') :
    wpList Try.prog ops Q (o :: rest) a w := by
  obtain ⟨D, lf, h, hd, hl⟩ := h
  refine wpList_delete_ranges w hg m x t 9 hop 68 lawK ht Rb b r n D lf cnt hm h (.string s) (keyL s) hx (keyOf_string_mk Try.underlying9 hs) ?_
  intro w' cnt' h1 h2 h3
  refine hK w' cnt' ⟨_, _, h1, hd.del s, fun t => ?_⟩ h2 h3
  rw [hl t, keyL_same]
  cases e : sEq t s with
  | false => simp
  | true => rw [sEq_iff.1 e, hls]; rfl
/-- an entry taken out -/
theorem wpl_dropB (hg : o.guard = none) (m x : Operand) (t : TypeId) (hop : o.op = Op.call { callee := Callee.builtin Builtin.delete, args := #[m, x], argTypes := #[t, 9] })
    (ht : Try.prog.underlying t = some (.map 9 68)) (b n : Nat) (f : ByteArray → Option Two)
    (hm : a.eval m = .map (some b)) (h : Mp w b n f) (s : ByteArray) (hx : a.eval x = .string s) (hs : s.size ≤ maxLen)
    (hK : ∀ w', Mp w' b n (dn f s) → w.mapTurned w' b → wpList Try.prog ops Q rest (a.put o.dst (.tuple #[])) w') :
    wpList Try.prog ops Q (o :: rest) a w := by
  obtain ⟨D, h, hd⟩ := h
  refine wpList_plain hg fun K' hK' => ?_
  obtain ⟨w', hrun, r1, r2⟩ := h.drop lawK ht (keyOf_string_mk Try.underlying9 hs) o.type
  unfold Oper.wp
  simp [execOp, hop, resolve, invoke, builtin, hm, hx, hrun, Result.andThen]
  exact hK' _ _ (hK w' ⟨_, r1, hd.del s⟩ r2)
/-- an entry put in -/
theorem wpl_putB (hg : o.guard = none) (m x v : Operand) (t : TypeId) (hop : o.op = Op.mapUpdate t m x v) (ht : Try.prog.underlying t = some (.map 9 68)) (b n : Nat) (f : ByteArray → Option Two)
    (hm : a.eval m = .map (some b)) (h : Mp w b n f) (hn : n < maxLen) (s : ByteArray) (p : Two) (hx : a.eval x = .string s) (hv : a.eval v = bothV p) (hs : s.size ≤ maxLen)
    (hK : ∀ w', Mp w' b (n + 1) (up f s p) → w.mapTurned w' b → wpList Try.prog ops Q rest (a.put o.dst undef) w') :
    wpList Try.prog ops Q (o :: rest) a w := by
  refine wpList_plain hg fun K' hK' => ?_
  obtain ⟨w', hrun, r1, r2⟩ := h.store ht hn s hs p
  unfold Oper.wp
  simp [execOp, hop, hm, hx, hv, hrun, Result.andThen]
  exact hK' _ _ (hK w' r1 r2)
end
end Go.Proofs.Ytkkmikgeppkhiaa

namespace Go.Proofs.Ytkkmikgeppkhiaa
open Go.ChangeShapes Go.WideShapes Go.ChangeAt Go.RowKit
set_option linter.unusedVariables false
set_option linter.unusedSimpArgs false

theorem ite_okT (p : Prop) [Decidable p] (r : Bool) (W : World) : (if p then Result.ok (Value.bool r) W else Result.ok (Value.bool false) W) = Result.ok (Value.bool (decide p && r)) W := by
  by_cases h : p
  · simp [h]
  · simp [h]
theorem ite_okF (p : Prop) [Decidable p] (r : Bool) (W : World) : (if p then Result.ok (Value.bool r) W else Result.ok (Value.bool true) W) = Result.ok (Value.bool (!decide p || r)) W := by
  by_cases h : p
  · simp [h]
  · simp [h]
theorem bq {α : Type} [BEq α] [LawfulBEq α] [DecidableEq α] (a b : α) : (a == b) = decide (a = b) := by
  rw [Bool.eq_iff_iff, beq_iff_eq, decide_eq_true_eq]
set_option maxRecDepth 100000 in
set_option maxHeartbeats 16000000 in
theorem eqW (a0 a1 a2 b0 b1 b2 : ByteArray) (a3 a4 a5 a6 a7 a8 a9 a10 a11 a12 a13 a14 b3 b4 b5 b6 b7 b8 b9 b10 b11 b12 b13 b14 : Int) (W : World) : (binOp .eql 57 (.agg #[.string a0, .string a1, .string a2, .int .i64 a3, .int .i64 a4, .int .i64 a5, .int .i64 a6, .int .i64 a7, .int .i64 a8, .int .i64 a9, .int .i64 a10, .int .i64 a11, .int .i64 a12, .int .i64 a13, .int .i64 a14]) (.agg #[.string b0, .string b1, .string b2, .int .i64 b3, .int .i64 b4, .int .i64 b5, .int .i64 b6, .int .i64 b7, .int .i64 b8, .int .i64 b9, .int .i64 b10, .int .i64 b11, .int .i64 b12, .int .i64 b13, .int .i64 b14])).run Try.prog W = .ok (.bool ((a0.toList == b0.toList) && (a1.toList == b1.toList) && (a2.toList == b2.toList) && (a3 == b3) && (a4 == b4) && (a5 == b5) && (a6 == b6) && (a7 == b7) && (a8 == b8) && (a9 == b9) && (a10 == b10) && (a11 == b11) && (a12 == b12) && (a13 == b13) && (a14 == b14))) W := by
  go_simp
  simp only [ite_okT]
  refine congrArg (fun z => Result.ok (Value.bool z) W) ?_
  simp only [bq, Bool.and_true, Bool.or_false, Bool.and_assoc, Bool.or_assoc, Bool.not_and]
set_option maxRecDepth 100000 in
set_option maxHeartbeats 16000000 in
theorem neW (a0 a1 a2 b0 b1 b2 : ByteArray) (a3 a4 a5 a6 a7 a8 a9 a10 a11 a12 a13 a14 b3 b4 b5 b6 b7 b8 b9 b10 b11 b12 b13 b14 : Int) (W : World) : (binOp .neq 57 (.agg #[.string a0, .string a1, .string a2, .int .i64 a3, .int .i64 a4, .int .i64 a5, .int .i64 a6, .int .i64 a7, .int .i64 a8, .int .i64 a9, .int .i64 a10, .int .i64 a11, .int .i64 a12, .int .i64 a13, .int .i64 a14]) (.agg #[.string b0, .string b1, .string b2, .int .i64 b3, .int .i64 b4, .int .i64 b5, .int .i64 b6, .int .i64 b7, .int .i64 b8, .int .i64 b9, .int .i64 b10, .int .i64 b11, .int .i64 b12, .int .i64 b13, .int .i64 b14])).run Try.prog W = .ok (.bool (!((a0.toList == b0.toList) && (a1.toList == b1.toList) && (a2.toList == b2.toList) && (a3 == b3) && (a4 == b4) && (a5 == b5) && (a6 == b6) && (a7 == b7) && (a8 == b8) && (a9 == b9) && (a10 == b10) && (a11 == b11) && (a12 == b12) && (a13 == b13) && (a14 == b14)))) W := by
  go_simp
  simp only [ite_okF]
  refine congrArg (fun z => Result.ok (Value.bool z) W) ?_
  simp only [bq, Bool.and_true, Bool.or_false, Bool.and_assoc, Bool.or_assoc, Bool.not_and]
set_option maxRecDepth 100000 in
set_option maxHeartbeats 16000000 in
theorem neW2 (a0 a1 a2 a15 a16 a17 b0 b1 b2 b15 b16 b17 : ByteArray) (a3 a4 a5 a6 a7 a8 a9 a10 a11 a12 a13 a14 a18 a19 a20 a21 a22 a23 a24 a25 a26 a27 a28 a29 b3 b4 b5 b6 b7 b8 b9 b10 b11 b12 b13 b14 b18 b19 b20 b21 b22 b23 b24 b25 b26 b27 b28 b29 : Int) (W : World) : (binOp .neq 68 (.agg #[.string a0, .string a1, .string a2, .int .i64 a3, .int .i64 a4, .int .i64 a5, .int .i64 a6, .int .i64 a7, .int .i64 a8, .int .i64 a9, .int .i64 a10, .int .i64 a11, .int .i64 a12, .int .i64 a13, .int .i64 a14, .string a15, .string a16, .string a17, .int .i64 a18, .int .i64 a19, .int .i64 a20, .int .i64 a21, .int .i64 a22, .int .i64 a23, .int .i64 a24, .int .i64 a25, .int .i64 a26, .int .i64 a27, .int .i64 a28, .int .i64 a29]) (.agg #[.string b0, .string b1, .string b2, .int .i64 b3, .int .i64 b4, .int .i64 b5, .int .i64 b6, .int .i64 b7, .int .i64 b8, .int .i64 b9, .int .i64 b10, .int .i64 b11, .int .i64 b12, .int .i64 b13, .int .i64 b14, .string b15, .string b16, .string b17, .int .i64 b18, .int .i64 b19, .int .i64 b20, .int .i64 b21, .int .i64 b22, .int .i64 b23, .int .i64 b24, .int .i64 b25, .int .i64 b26, .int .i64 b27, .int .i64 b28, .int .i64 b29])).run Try.prog W = .ok (.bool (!((a0.toList == b0.toList) && (a1.toList == b1.toList) && (a2.toList == b2.toList) && (a3 == b3) && (a4 == b4) && (a5 == b5) && (a6 == b6) && (a7 == b7) && (a8 == b8) && (a9 == b9) && (a10 == b10) && (a11 == b11) && (a12 == b12) && (a13 == b13) && (a14 == b14) && (a15.toList == b15.toList) && (a16.toList == b16.toList) && (a17.toList == b17.toList) && (a18 == b18) && (a19 == b19) && (a20 == b20) && (a21 == b21) && (a22 == b22) && (a23 == b23) && (a24 == b24) && (a25 == b25) && (a26 == b26) && (a27 == b27) && (a28 == b28) && (a29 == b29)))) W := by
  go_simp
  simp only [ite_okF]
  refine congrArg (fun z => Result.ok (Value.bool z) W) ?_
  simp only [bq, Bool.and_true, Bool.or_false, Bool.and_assoc, Bool.or_assoc, Bool.not_and]
theorem eqF (f g : Ft) (W : World) : (binOp .eql 57 (ftv f) (ftv g)).run Try.prog W = .ok (.bool (fE f g)) W := by
  unfold ftv
  rw [eqW]
  rfl
theorem neF (f g : Ft) (W : World) : (binOp .neq 57 (ftv f) (ftv g)).run Try.prog W = .ok (.bool (!fE f g)) W := by
  unfold ftv
  rw [neW]
  rfl
def bE (p q : Two) : Bool := fE p.1 q.1 && fE p.2 q.2
theorem bE_iff {p q : Two} : bE p q = true ↔ p = q := by
  unfold bE
  rw [Bool.and_eq_true, fE_iff, fE_iff]
  exact ⟨fun h => Prod.ext h.1 h.2, fun h => by rw [h]; exact ⟨rfl, rfl⟩⟩
theorem neB (p q : Two) (W : World) : (binOp .neq 68 (bothV p) (bothV q)).run Try.prog W = .ok (.bool (!bE p q)) W := by
  unfold bothV
  rw [neW2]
  unfold bE fE sEq
  simp only [Bool.and_assoc]
end Go.Proofs.Ytkkmikgeppkhiaa

namespace Go.Proofs.Ytkkmikgeppkhiaa
open Go.ChangeShapes Go.WideShapes Go.ChangeAt Go.RowKit
set_option linter.unusedVariables false
set_option linter.unusedSimpArgs false

theorem wpl_build {P : Program} {ops : Array Oper} {rest : List Oper} {o : Oper} {a : Act} {w : World} {Q : Exit → Act → World → Prop} (hg : o.guard = none) (t : TypeId) (parts : Array (Nat × Operand)) (ho : o.op = .build t parts) (cells : Array Value)
    (hf : P.built t (parts.map fun (i, x) => (i, a.eval x)).toList = some cells)
    (h : wpList P ops Q rest (a.put o.dst (.agg cells)) w) : wpList P ops Q (o :: rest) a w := by
  refine wpList_build hg t parts ho (by rw [hf]; rfl) ?_
  rw [hf]
  exact h
theorem wpl_storeRow {P : Program} {ops : Array Oper} {rest : List Oper} {o : Oper} {a : Act} {w : World} {Q : Exit → Act → World → Prop} (hgd : o.guard = none) (ty : TypeId) (x y : Operand) (ho : o.op = .store ty x y)
    (g : Nat) (cells : List Value) (hx : a.eval x = .pointer (some ⟨g, 0, none⟩)) (hy : a.eval y = .agg cells.toArray)
    (t : TypeId) (old : List Value) (hg : vb w g t old) (hi : (P.info? ty).map (·.size) = some cells.length)
    (hold : old.length = cells.length) (h1 : ∀ v ∈ cells, v.oneCell' = true)
    (h : wpList P ops Q rest (a.put o.dst undef) (w.setRow g cells.toArray)) : wpList P ops Q (o :: rest) a w :=
  wpList_plain hgd fun _ hK => wp_store_row ty x y ho g cells.toArray hx hy t old.toArray hg (by simpa using hi) (by simpa using hold) (by simpa using h1) (hK _ _ h)
theorem wpl_storeRowA {P : Program} {ops : Array Oper} {rest : List Oper} {o : Oper} {a : Act} {w : World} {Q : Exit → Act → World → Prop} (hgd : o.guard = none) (ty : TypeId) (x y : Operand) (ho : o.op = .store ty x y)
    (g : Nat) (cells : Array Value) (hx : a.eval x = .pointer (some ⟨g, 0, none⟩)) (hy : a.eval y = .agg cells)
    (t : TypeId) (old : Array Value) (hg : w.heap[g]? = some (.cells old t (0, 0))) (hi : (P.info? ty).map (·.size) = some cells.size)
    (hold : old.size = cells.size) (h1 : cells.all (·.oneCell') = true)
    (h : wpList P ops Q rest (a.put o.dst undef) (w.setRow g cells)) : wpList P ops Q (o :: rest) a w :=
  wpList_plain hgd fun _ hK => wp_store_row ty x y ho g cells hx hy t old hg hi hold h1 (hK _ _ h)
theorem wpl_loadRow {P : Program} {ops : Array Oper} {rest : List Oper} {o : Oper} {a : Act} {w : World} {Q : Exit → Act → World → Prop} (hgd : o.guard = none) (ty : TypeId) (x : Operand) (ho : o.op = .load ty x)
    (g : Nat) (hx : a.eval x = .pointer (some ⟨g, 0, none⟩)) (t : TypeId) (cells : List Value) (n e : Nat) (hg : vb w g t cells) (hu : P.underlying ty = some (.array n e)) (hi : (P.info? ty).map (·.size) = some cells.length)
    (h : wpList P ops Q rest (a.put o.dst (.agg cells.toArray)) w) : wpList P ops Q (o :: rest) a w :=
  wpList_load_row hgd ty x ho g hx t cells.toArray (0, 0) _ hg hu rfl (by simpa using hi) h
theorem vb_row {w : World} {g t : Nat} {vs : List Value} (h : vb w g t vs) (cs : List Value) : vb (w.setRow g cs.toArray) g t cs := by
  show (w.heap.modify g _)[g]? = _
  rw [Array.getElem?_modify, if_pos rfl, h]
  rfl
theorem vb_row_ne {w : World} {g g' t : Nat} {vs : List Value} (h : vb w g t vs) (hg : g ≠ g') (cs : Array Value) : vb (w.setRow g' cs) g t vs := by
  show (w.heap.modify g' _)[g]? = _
  rw [Array.getElem?_modify, if_neg (fun e => hg e.symm)]
  exact h
theorem bel_row {B : Nat} {a w : World} (h : Below B a w) {g : Nat} (hg : B ≤ g) (cs : Array Value) : Below B a (w.setRow g cs) :=
  h.trans ⟨rfl, rfl, rfl, by simp [World.setRow], fun k hk => by
    show (w.heap.modify g _)[k]? = _
    rw [Array.getElem?_modify, if_neg (by omega)]⟩
end Go.Proofs.Ytkkmikgeppkhiaa

namespace Go.Proofs.Ytkkmikgeppkhiaa
open Go.ChangeShapes Go.WideShapes Go.ChangeAt Go.RowKit
set_option linter.unusedVariables false
set_option linter.unusedSimpArgs false

theorem ld_any (W : World) (g o n : Nat) (L : List Value) (hl : L.length = n) (h : ∀ (j : Nat) (v : Value), L[j]? = some v → W.cell? ⟨g, o + j, none⟩ = some v) : (loadCellsFrom ⟨g, o, none⟩ 0 n #[]).run Try.prog W = .ok L.toArray W := by
  subst hl
  have := run_loadCells_list (P := Try.prog) W ⟨g, o, none⟩ L (fun j v hv => by rw [add_none]; exact h j v hv)
  simpa [loadCells] using this
/-- a feature's cells as one letter -/
structure Fl (F : Array Value) (f : Ft) : Prop where
  v : ftv f = .agg F
  l : F.toList = ftc f
theorem fl_ex (f : Ft) : ∃ F, Fl F f := ⟨(ftc f).toArray, rfl, rfl⟩
structure Bl (A : Array Value) (p : Two) : Prop where
  v : bothV p = .agg A
  l : A.toList = ftc p.1 ++ ftc p.2
theorem bl_ex (p : Two) : ∃ A, Bl A p := ⟨(ftc p.1 ++ ftc p.2).toArray, rfl, rfl⟩
theorem Fl.size {F : Array Value} {f : Ft} (h : Fl F f) : F.size = 15 := by rw [← Array.length_toList, h.l]; rfl
theorem Bl.size {A : Array Value} {p : Two} (h : Bl A p) : A.size = 30 := by rw [← Array.length_toList, h.l]; rfl
theorem Fl.eq {F G : Array Value} {f g : Ft} (h : Fl F f) (k : Fl G g) (W : World) : (binOp .eql 57 (.agg F) (.agg G)).run Try.prog W = .ok (.bool (fE f g)) W := by
  rw [← h.v, ← k.v]; exact eqF f g W
theorem Fl.ne {F G : Array Value} {f g : Ft} (h : Fl F f) (k : Fl G g) (W : World) : (binOp .neq 57 (.agg F) (.agg G)).run Try.prog W = .ok (.bool (!fE f g)) W := by
  rw [← h.v, ← k.v]; exact neF f g W
theorem Bl.ne {A B : Array Value} {p q : Two} (h : Bl A p) (k : Bl B q) (W : World) : (binOp .neq 68 (.agg A) (.agg B)).run Try.prog W = .ok (.bool (!bE p q)) W := by
  rw [← h.v, ← k.v]; exact neB p q W
/-- block g has these cells -/
def ab (W : World) (g t : Nat) (A : Array Value) : Prop := W.heap[g]? = some (.cells A t (0, 0))
theorem ab.lt {W : World} {g t : Nat} {A : Array Value} (h : ab W g t A) : g < W.heap.size := (Array.getElem?_eq_some_iff.1 h).1
theorem ab.bel {w W : World} {g t : Nat} {A : Array Value} (h : ab w g t A) (hb : Below w.heap.size w W) : ab W g t A := (hb.block g h.lt).trans h
theorem ab_new (W : World) (t : Nat) (A : Array Value) (g : Nat) (hg : g = W.heap.size) : ab (W.alloc (.cells A t)) g t A := by
  subst hg
  exact heap_alloc_last W _
theorem ab.cell {W : World} {g t : Nat} {A : Array Value} (h : ab W g t A) {j : Nat} {v : Value} (hv : A.toList[j]? = some v) : W.cell? ⟨g, j, none⟩ = some v := by
  simp only [World.cell?]
  rw [h]
  simpa using hv
theorem Fl.load {F : Array Value} {f : Ft} (h : Fl F f) {W : World} {g o : Nat} (hc : ∀ (j : Nat) (v : Value), (ftc f)[j]? = some v → W.cell? ⟨g, o + j, none⟩ = some v) : (loadVar 57 ⟨g, o, none⟩).run Try.prog W = .ok (.agg F) W := by
  have := ld_any W g o 15 (ftc f) rfl hc
  rw [← h.l] at this
  simp only [loadVar, loadCells, Try.isAgg57, Try.sizeOf57, Sem.run_bind, Sem.run_pure, Result.andThen, if_true, this]
theorem Fl.load0 {F : Array Value} {f : Ft} (h : Fl F f) {W : World} {g t : Nat} (hb : ab W g t F) : (loadVar 57 ⟨g, 0, none⟩).run Try.prog W = .ok (.agg F) W :=
  h.load fun j v hv => by rw [Nat.zero_add]; exact hb.cell (by rw [h.l]; exact hv)
theorem Bl.load {A : Array Value} {p : Two} (h : Bl A p) {W : World} {g t : Nat} (hb : ab W g t A) : (loadVar 68 ⟨g, 0, none⟩).run Try.prog W = .ok (.agg A) W := by
  have := ld_any W g 0 30 (ftc p.1 ++ ftc p.2) rfl (fun j v hv => by rw [Nat.zero_add]; exact hb.cell (by rw [h.l]; exact hv))
  rw [← h.l] at this
  simp only [loadVar, loadCells, Try.isAgg68, Try.sizeOf68, Sem.run_bind, Sem.run_pure, Result.andThen, if_true, this]
theorem Bl.load1 {A F : Array Value} {p : Two} (h : Bl A p) (k : Fl F p.1) {W : World} {g t : Nat} (hb : ab W g t A) : (loadVar 57 ⟨g, 0, none⟩).run Try.prog W = .ok (.agg F) W :=
  k.load fun j v hv => by
    rw [Nat.zero_add]
    refine hb.cell ?_
    rw [h.l, List.getElem?_append_left (List.getElem?_eq_some_iff.1 hv).1]
    exact hv
theorem Bl.load2 {A F : Array Value} {p : Two} (h : Bl A p) (k : Fl F p.2) {W : World} {g t : Nat} (hb : ab W g t A) : (loadVar 57 ⟨g, 15, none⟩).run Try.prog W = .ok (.agg F) W :=
  k.load fun j v hv => by
    refine hb.cell ?_
    rw [h.l, List.getElem?_append_right (by simp [ftc]), show 15 + j - (ftc p.1).length = j by simp [ftc]]
    exact hv
/-- a load that is known -/
theorem wpl_loadAt {P : Program} {ops : Array Oper} {rest : List Oper} {o : Oper} {a : Act} {w : World} {Q : Exit → Act → World → Prop} (hgd : o.guard = none) (ty : TypeId) (x : Operand) (ho : o.op = .load ty x)
    (ad : Addr) (hx : a.eval x = .pointer (some ad)) (v : Value) (hrun : (loadVar ty ad).run P w = .ok v w) (h : wpList P ops Q rest (a.put o.dst v) w) : wpList P ops Q (o :: rest) a w := by
  refine wpList_plain hgd fun K hK => ?_
  unfold Oper.wp
  simp only [execOp, ho, Instr.loadAt, Instr.sureAddr, hx, Sem.run_bind, Sem.run_pure, Result.andThen_ok, hrun]
  exact hK _ _ h
/-- a struct stored into the block that was made last -/
theorem wpl_putNew {P : Program} {ops : Array Oper} {rest : List Oper} {o : Oper} {a : Act} {Q : Exit → Act → World → Prop} (hgd : o.guard = none) (ty : TypeId) (x y : Operand) (ho : o.op = .store ty x y)
    (W : World) (old A : Array Value) (t : TypeId) (hx : a.eval x = .pointer (some ⟨W.heap.size, 0, none⟩)) (hy : a.eval y = .agg A) (hi : (P.info? ty).map (·.size) = some A.size) (hold : old.size = A.size) (h1 : A.all (·.oneCell') = true)
    (h : wpList P ops Q rest (a.put o.dst undef) (W.alloc (.cells A t))) : wpList P ops Q (o :: rest) a (W.alloc (.cells old t)) := by
  refine wpl_storeRowA hgd ty x y ho W.heap.size A hx hy t old (heap_alloc_last W _) hi hold h1 ?_
  rw [World.setRow_alloc_new]
  exact h
theorem ftc_one (f : Ft) : ∀ v ∈ ftc f, v.oneCell' = true := by
  intro v hv
  unfold ftc at hv
  simp only [List.mem_cons, List.not_mem_nil, or_false] at hv
  rcases hv with rfl | rfl | rfl | rfl | rfl | rfl | rfl | rfl | rfl | rfl | rfl | rfl | rfl | rfl | rfl <;> rfl
theorem Fl.one {F : Array Value} {f : Ft} (h : Fl F f) : F.all (·.oneCell') = true := by
  rw [← Array.all_toList, List.all_eq_true, h.l]
  exact ftc_one f
theorem Bl.one {A : Array Value} {p : Two} (h : Bl A p) : A.all (·.oneCell') = true := by
  rw [← Array.all_toList, List.all_eq_true, h.l]
  intro v hv
  rcases List.mem_append.1 hv with hv | hv
  · exact ftc_one _ v hv
  · exact ftc_one _ v hv
theorem size57 : (Try.prog.info? 57).map (·.size) = some 15 := by kernel_rfl
theorem size68 : (Try.prog.info? 68).map (·.size) = some 30 := by kernel_rfl
theorem Fl.info {F : Array Value} {f : Ft} (h : Fl F f) : (Try.prog.info? 57).map (·.size) = some F.size := by rw [h.size]; exact size57
theorem Bl.info {A : Array Value} {p : Two} (h : Bl A p) : (Try.prog.info? 68).map (·.size) = some A.size := by rw [h.size]; exact size68
set_option maxRecDepth 100000 in
set_option maxHeartbeats 8000000 in
theorem same_any (p : Two) (w : World) : Calls Try.prog 52 #[bothV p] w fun e w' => e = .returned (.bool (fE p.1 p.2)) ∧ Below w.heap.size w w' := by
  obtain ⟨A, hA⟩ := bl_ex p
  obtain ⟨F, hF⟩ := fl_ex p.1
  obtain ⟨G, hG⟩ := fl_ex p.2
  have L0 := hide (hA.load1 hF (ab_new w 68 A _ rfl))
  have L1 := hide (hA.load2 hG (ab_new w 68 A _ rfl))
  have hne := hF.eq hG
  have hsz := hA.size
  rw [hA.v]
  generalize fE p.1 p.2 = q at *
  clear hA hF hG
  go_enter Try.func52, Try.ntmps52
  go_wp2_with (first | refine wpl_loadAt rfl 57 _ rfl _ rfl _ (unhide L0) ?_ | refine wpl_loadAt rfl 57 _ rfl _ rfl _ (unhide L1) ?_)
  go_ret
  exact ⟨rfl, ba (Below.refl _ _) _⟩
end Go.Proofs.Ytkkmikgeppkhiaa

namespace Go.Proofs.Ytkkmikgeppkhiaa
open Go.ChangeShapes Go.WideShapes Go.ChangeAt Go.RowKit
set_option linter.unusedVariables false
set_option linter.unusedSimpArgs false

theorem zero57 (w : World) : (zeroValue 57).run Try.prog w = .ok (ftv ft0) w := by
  simp [go_sem, ftv, ft0]
  rfl
set_option maxRecDepth 100000 in
set_option maxHeartbeats 4000000 in
theorem came_any (p : Two) (w : World) : Calls Try.prog 56 #[bothV p] w fun e w' => e = .returned (.bool (fE p.1 ft0)) ∧ Below w.heap.size w w' := by
  obtain ⟨A, hA⟩ := bl_ex p
  obtain ⟨F, hF⟩ := fl_ex p.1
  have L0 := hide (hA.load1 hF (W := (w.alloc (.cells A 68)).alloc (.cells (ftc ft0).toArray 57)) ((ab_new w 68 A _ rfl).bel (ba (Below.refl _ _) _)))
  have L1 := hide ((⟨rfl, rfl⟩ : Fl (ftc ft0).toArray ft0).load0 (ab_new (w.alloc (.cells A 68)) 57 (ftc ft0).toArray _ rfl))
  have hne := hF.eq (⟨rfl, rfl⟩ : Fl (ftc ft0).toArray ft0)
  have hsz := hA.size
  rw [hA.v]
  generalize fE p.1 ft0 = q at *
  clear hA hF
  unfold ft0 ftc at hne L0 L1
  simp only [World.size_alloc] at L1
  go_enter Try.func56, Try.ntmps56
  go_wp2_with (first | refine wpl_loadAt rfl 57 _ rfl _ rfl _ (unhide L0) ?_ | refine wpl_loadAt rfl 57 _ rfl _ rfl _ (unhide L1) ?_)
  go_ret
  exact ⟨rfl, ba (ba (Below.refl _ _) _) _⟩
set_option maxRecDepth 100000 in
set_option maxHeartbeats 4000000 in
theorem lost_any (p : Two) (w : World) : Calls Try.prog 57 #[bothV p] w fun e w' => e = .returned (.bool (fE p.2 ft0)) ∧ Below w.heap.size w w' := by
  obtain ⟨A, hA⟩ := bl_ex p
  obtain ⟨F, hF⟩ := fl_ex p.2
  have L0 := hide (hA.load2 hF (W := (w.alloc (.cells A 68)).alloc (.cells (ftc ft0).toArray 57)) ((ab_new w 68 A _ rfl).bel (ba (Below.refl _ _) _)))
  have L1 := hide ((⟨rfl, rfl⟩ : Fl (ftc ft0).toArray ft0).load0 (ab_new (w.alloc (.cells A 68)) 57 (ftc ft0).toArray _ rfl))
  have hne := hF.eq (⟨rfl, rfl⟩ : Fl (ftc ft0).toArray ft0)
  have hsz := hA.size
  rw [hA.v]
  generalize fE p.2 ft0 = q at *
  clear hA hF
  unfold ft0 ftc at hne L0 L1
  simp only [World.size_alloc] at L1
  go_enter Try.func57, Try.ntmps57
  go_wp2_with (first | refine wpl_loadAt rfl 57 _ rfl _ rfl _ (unhide L0) ?_ | refine wpl_loadAt rfl 57 _ rfl _ rfl _ (unhide L1) ?_)
  go_ret
  exact ⟨rfl, ba (ba (Below.refl _ _) _) _⟩
/-- the kind of an edit -/
def ekd (p : Two) : Int := if fE p.1 ft0 then 1 else if fE p.2 ft0 then 2 else 3
set_option maxRecDepth 100000 in
set_option maxHeartbeats 4000000 in
theorem kind_any (p : Two) (w : World) : Calls Try.prog 34 #[bothV p] w fun e w' => e = .returned (.int .i64 (ekd p)) ∧ Below w.heap.size w w' := by
  have HC := hide (fun W => came_any p W)
  have HD := hide (fun W => lost_any p W)
  have hk : ekd p = if fE p.1 ft0 then 1 else if fE p.2 ft0 then 2 else 3 := rfl
  rw [hk]
  clear hk
  obtain ⟨A, hA⟩ := bl_ex p
  have LA := hide (fun W (h : ab W w.heap.size 68 A) => hA.load h)
  have HN := hide (ab_new w 68 A _ rfl)
  have hsz := hA.size
  rw [hA.v] at HC HD ⊢
  clear hA
  cases h1 : fE p.1 ft0
  · rw [h1] at HC
    cases h2 : fE p.2 ft0
    all_goals
      rw [h2] at HD
      clear h1 h2
      go_enter Try.func34, Try.ntmps34
      go_wp2_with (refine wpl_loadAt rfl 68 _ rfl _ rfl _ (unhide LA _ (unhide HN)) ?_)
      refine (unhide HC _).mono ?_
      rintro e W1 ⟨rfl, hb1⟩
      have HB1 := hide hb1
      clear hb1
      go_wp2_with (refine wpl_loadAt rfl 68 _ rfl _ rfl _ (unhide LA _ ((unhide HN).bel (unhide HB1))) ?_)
      refine (unhide HD _).mono ?_
      rintro e W2 ⟨rfl, hb2⟩
      have HB2 := hide (bc (bc (ba (Below.refl _ _) _) (unhide HB1)) hb2)
      clear hb2
      go_wp2_with fail
      go_ret
      exact ⟨rfl, unhide HB2⟩
  · rw [h1] at HC
    clear h1
    go_enter Try.func34, Try.ntmps34
    go_wp2_with (refine wpl_loadAt rfl 68 _ rfl _ rfl _ (unhide LA _ (unhide HN)) ?_)
    refine (unhide HC _).mono ?_
    rintro e W1 ⟨rfl, hb1⟩
    have HB1 := hide (bc (ba (Below.refl _ _) _) hb1)
    clear hb1
    go_wp2_with fail
    go_ret
    exact ⟨rfl, unhide HB1⟩
set_option maxRecDepth 100000 in
set_option maxHeartbeats 4000000 in
theorem lacks_any (b n : Nat) (f : ByteArray → Option Two) (s : ByteArray) (w : World) (h : Mp w b n f) (hs : s.size ≤ maxLen) : Calls Try.prog 48 #[.map (some b), .string s] w fun e w' => e = .returned (.bool (!(f s).isSome)) ∧ Below w.heap.size w w' := by
  have hl := h.look s hs
  generalize (f s).isSome = q at *
  obtain ⟨A, hA⟩ := bl_ex ((f s).getD p0)
  rw [hA.v] at hl
  have hsz := hA.size
  have HI := hide hA.info
  have HO := hide hA.one
  clear hA h
  cases q
  all_goals
    go_enter Try.func48, Try.ntmps48
    go_wp2_with (refine wpl_putNew rfl 68 _ _ rfl _ _ A 68 rfl rfl (unhide HI) (by rw [hsz]; rfl) (unhide HO) ?_)
    go_ret
    exact ⟨rfl, ba (Below.refl _ _) _⟩
end Go.Proofs.Ytkkmikgeppkhiaa

namespace Go.Proofs.Ytkkmikgeppkhiaa
open Go.ChangeShapes Go.WideShapes Go.ChangeAt Go.RowKit
set_option linter.unusedVariables false
set_option linter.unusedSimpArgs false

theorem gtF_find (s : ByteArray) : ∀ fs : List Ft, gtF fs s = fs.find? fun f => sEq f.nm s
  | [] => rfl
  | a :: l => by
    have ih := gtF_find s l
    unfold gtF findN at *
    rw [List.findIdx?_cons, List.find?_cons]
    cases e : sEq a.nm s with
    | true => simp
    | false =>
      simp only [Bool.false_eq_true, if_false]
      rw [← ih, Option.map_map]
      congr 1
theorem gtF_app (a b : List Ft) (s : ByteArray) : gtF (a ++ b) s = (gtF a s).or (gtF b s) := by
  rw [gtF_find, gtF_find, gtF_find, List.find?_append]
theorem gtF_one (x : Ft) (s : ByteArray) : gtF [x] s = if sEq x.nm s = true then some x else none := by
  rw [gtF_find, List.find?_cons]
  cases sEq x.nm s <;> simp
theorem Dif.ahead {fs : List Ft} (h : Dif fs) {i : Nat} {x : Ft} (hx : fs[i]? = some x) : gtF (fs.take i) x.nm = none := by
  rw [gt_none]
  intro f hf e
  obtain ⟨j, hj, rfl⟩ := List.mem_take_iff_getElem.1 hf
  obtain ⟨hi, e2⟩ := List.getElem?_eq_some_iff.1 hx
  have := (List.pairwise_iff_getElem.1 h) j i (by omega) hi (by omega)
  rw [e2] at this
  exact this e
theorem gtF_succ {fs : List Ft} (h : Dif fs) {i : Nat} {x : Ft} (hx : fs[i]? = some x) (s : ByteArray) : gtF (fs.take (i + 1)) s = if sEq x.nm s = true then some x else gtF (fs.take i) s := by
  rw [List.take_add_one, hx, Option.toList_some, gtF_app, gtF_one]
  cases e : sEq x.nm s with
  | true =>
    rw [← sEq_iff.1 e, h.ahead hx]
    simp
  | false => simp
/-- what both have of a name -/
def two (a b : Option Ft) : Option Two := match a, b with | none, none => none | a, b => some (a.getD ft0, b.getD ft0)
def pr (B L : List Ft) (s : ByteArray) : Option Two := two (gtF B s) (gtF L s)
theorem two_some (a : Option Ft) (x : Ft) : two a (some x) = some (a.getD ft0, x) := by cases a <;> rfl
theorem two_none (a : Option Ft) : two a none = a.map fun x => (x, ft0) := by cases a <;> rfl
theorem two_getD (a b : Option Ft) : ((two a b).getD p0).1 = a.getD ft0 := by cases a <;> cases b <;> rfl
theorem two_isSome (a b : Option Ft) : (two a b).isSome = (a.isSome || b.isSome) := by cases a <;> cases b <;> rfl
/-- behind the first k of the first list -/
def st1 (B : List Ft) (k : Nat) (s : ByteArray) : Option Two := two (gtF (B.take k) s) none
/-- behind the first k of the second one -/
def st2 (B L : List Ft) (k : Nat) (s : ByteArray) : Option Two := two (gtF B s) (gtF (L.take k) s)
theorem st1_zero (B : List Ft) (s : ByteArray) : none = st1 B 0 s := by simp [st1, two, gtF, findN]
theorem st1_succ {B : List Ft} (h : Dif B) {i : Nat} {x : Ft} (hx : B[i]? = some x) (s : ByteArray) : up (st1 B i) x.nm (x, ft0) s = st1 B (i + 1) s := by
  unfold up st1
  rw [gtF_succ h hx]
  split <;> rfl
theorem st1_end {B : List Ft} {k : Nat} (h : B.length ≤ k) (L : List Ft) (s : ByteArray) : st1 B k s = st2 B L 0 s := by
  unfold st1 st2
  rw [List.take_of_length_le h]
  simp [gtF, findN]
theorem st2_succ {B L : List Ft} (h : Dif L) {i : Nat} {x : Ft} (hx : L[i]? = some x) (s : ByteArray) : up (st2 B L i) x.nm ((((st2 B L i x.nm).getD p0).1), x) s = st2 B L (i + 1) s := by
  unfold up st2
  rw [gtF_succ h hx, two_getD]
  cases e : sEq x.nm s with
  | true => rw [if_pos rfl, if_pos rfl, sEq_iff.1 e, two_some]
  | false => rfl
theorem st2_end {B L : List Ft} {k : Nat} (h : L.length ≤ k) (s : ByteArray) : st2 B L k s = pr B L s := by
  unfold st2 pr
  rw [List.take_of_length_le h]
/-- those that are the same taken out, but for those still to come -/
def cut (f : ByteArray → Option Two) (left : ByteArray → Bool) (s : ByteArray) : Option Two := (f s).filter fun p => left s || !fE p.1 p.2
theorem cut_start (f : ByteArray → Option Two) (s : ByteArray) : f s = cut f (fun s => (f s).isSome) s := by
  unfold cut
  cases e : f s with
  | none => rfl
  | some p => simp [e, Option.filter]
theorem cut_get {f : ByteArray → Option Two} {left : ByteArray → Bool} {s : ByteArray} {p : Two} (h : cut f left s = some p) : f s = some p := by
  unfold cut at h
  exact (Option.filter_eq_some_iff.1 h).1
theorem cut_same {f : ByteArray → Option Two} {left : ByteArray → Bool} {s : ByteArray} {p : Two} (h : cut f left s = some p) (e : fE p.1 p.2 = true) (t : ByteArray) : dn (cut f left) s t = cut f (fun t => left t && !sEq s t) t := by
  unfold dn
  cases q : sEq s t with
  | true =>
    have := cut_get h
    rw [sEq_iff.1 q] at this
    unfold cut
    rw [this, if_pos rfl]
    simp [e, q, Option.filter]
  | false => unfold cut; simp [q]
theorem cut_other {f : ByteArray → Option Two} {left : ByteArray → Bool} {s : ByteArray} {p : Two} (h : cut f left s = some p) (e : fE p.1 p.2 = false) (t : ByteArray) : cut f left t = cut f (fun t => left t && !sEq s t) t := by
  cases q : sEq s t with
  | true =>
    have := cut_get h
    rw [sEq_iff.1 q] at this
    unfold cut
    rw [this]
    simp [e, Option.filter]
  | false => unfold cut; simp [q]
/-- the edits of two lists, by names -/
def eds (B L : List Ft) (s : ByteArray) : Option Two := (pr B L s).filter fun p => !fE p.1 p.2
theorem cut_end {f : ByteArray → Option Two} {left : ByteArray → Bool} (h : ∀ s, left s = false) (s : ByteArray) : cut f left s = (f s).filter fun p => !fE p.1 p.2 := by
  unfold cut
  simp only [h s, Bool.false_or]
/-- those that another one has are taken out, but for those still to come -/
def wo2 (f g : ByteArray → Option Two) (left : ByteArray → Bool) (s : ByteArray) : Option Two := if (g s).isSome && !left s then none else f s
theorem wo2_start (f g : ByteArray → Option Two) (s : ByteArray) : f s = wo2 f g (fun s => (g s).isSome) s := by unfold wo2; cases e : (g s).isSome <;> simp [e]
theorem wo2_step {f g : ByteArray → Option Two} {left : ByteArray → Bool} {s : ByteArray} (h : left s = true) {p : Two} (hg : g s = some p) (t : ByteArray) : dn (wo2 f g left) s t = wo2 f g (fun t => left t && !sEq s t) t := by
  unfold dn wo2
  cases q : sEq s t with
  | true => rw [← sEq_iff.1 q]; simp [hg, sEq_refl]
  | false => simp [q]
/-- what is left of f without g -/
def wto (f g : ByteArray → Option Two) (s : ByteArray) : Option Two := if (g s).isSome then none else f s
theorem wo2_end {f g : ByteArray → Option Two} {left : ByteArray → Bool} (h : ∀ s, left s = false) (s : ByteArray) : wo2 f g left s = wto f g s := by unfold wo2 wto; simp [h s]
/-- what is done to lists -/
def dnB (f : ByteArray → Option Two) (x : Ft) : Option Ft := match f x.nm with | none => some x | some p => if fE p.2 ft0 then none else some p.2
def dnL (f : ByteArray → Option Two) (x : Ft) : Bool := match f x.nm with | none => false | some p => fE p.1 ft0
def dTo (f : ByteArray → Option Two) (B L : List Ft) : List Ft := B.filterMap (dnB f) ++ L.filter (dnL f)
end Go.Proofs.Ytkkmikgeppkhiaa

namespace Go.Proofs.Ytkkmikgeppkhiaa
open Go.ChangeShapes Go.WideShapes Go.ChangeAt Go.RowKit Go.Maps Go.WideMaps
set_option linter.unusedVariables false
set_option linter.unusedSimpArgs false

theorem gb_trans {a b c : World} {row row' : Option Nat} (h : a.grownBy b row) (k : b.grownBy c row') (hr : ∀ j, row' = some j → a.heap.size ≤ j ∨ row = some j) : a.grownBy c row := h.andThen k hr
theorem gb_below {a b : World} (h : a.grownBy b none) : Below a.heap.size a b := Below.grown (Below.refl _ _) h (Nat.le_refl _) (fun j hj => by cases hj)
theorem gb_alloc (a : World) (o : Obj) (row : Option Nat) : a.grownBy (a.alloc o) row := World.grownBy_alloc a o row
theorem gb_of {a b : World} (h : Below a.heap.size a b) (row : Option Nat) : a.grownBy b row := by
  exact ⟨h.os, h.tape, h.output, h.size, fun k hk _ => h.block k hk⟩
theorem gb_mp {w W : World} {b n : Nat} {row : Option Nat} {f : ByteArray → Option Two} (h : Mp w b n f) (hg : w.grownBy W row) (hr : row ≠ some b) : Mp W b n f := h.blk (hg.block b h.lt (fun e => hr e.symm))
theorem gb_rg {w W : World} {b r n cnt : Nat} {row : Option Nat} {f : ByteArray → Option Two} {left : ByteArray → Bool} (h : Rg w b r n f left cnt) (hg : w.grownBy W row) (h1 : row ≠ some b) (h2 : row ≠ some r) : Rg W b r n f left cnt :=
  h.blk (hg.block b h.map.lt (fun e => h1 e.symm)) (hg.block r h.lt (fun e => h2 e.symm))
set_option maxRecDepth 100000 in
set_option maxHeartbeats 4000000 in
theorem leave_any (b1 b2 n1 n2 : Nat) (f g : ByteArray → Option Two) (w : World) (h1 : Mp w b1 n1 f) (h2 : Mp w b2 n2 g) (hne : b1 ≠ b2) :
    Calls Try.prog 42 #[.map (some b1), .map (some b2)] w fun e w' => e = .returned (.tuple #[]) ∧ Mp w' b1 n1 (wto f g) ∧ w.grownBy w' (some b1) := by
  have H1 := hide h1
  have H2 := hide h2
  have l1 := h1.lt
  clear h1 h2
  go_enter Try.func42, Try.ntmps42
  go_wp2_with (refine wpl_rangeB _ rfl _ 61 rfl und61 b2 n2 g rfl (unhide H2) ?_; intro w0 cnt0 hrg0 hg0 hs0)
  have R0 := hide hrg0
  have M0 := hide (gb_mp (unhide H1) hg0 (by simp))
  have G0 := hide (hg0.but (some b1))
  clear hrg0 hg0
  go_frame
  go_loopw [4] (fun _ W => ∃ left cnt, Rg W b2 w.heap.size n2 g left cnt ∧ Mp W b1 n1 (wo2 f g left) ∧ w.grownBy W (some b1)) (fun _ W => W.rangeLeft b2 w.heap.size)
  case atStart => exact ⟨_, _, unhide R0, (unhide M0).congr (wo2_start f g), unhide G0⟩
  case round =>
    obtain ⟨left, cnt, hrg, hm, hg⟩ := hrel
    have HR := hide hrg
    have HM := hide hm
    have HG := hide hg
    clear hrg hm hg
    go_wp2_with (first
      | (at_next; refine wpl_nextB _ rfl _ rfl b2 w.heap.size n2 g left cnt rfl (unhide HR) ?_ ?_)
      | go_in)
    · intro hl0
      have HL0 := hide hl0
      clear hl0
      go_wp2_with fail
      go_end0
      exact ⟨rfl, (unhide HM).congr (wo2_end (unhide HL0)), unhide HG⟩
    · intro s p1 p2 w1 cnt1 hs hls hf hrg1 hlt hg1 hs1 hen
      have HR1 := hide hrg1
      have HM1 := hide (gb_mp (unhide HM) hg1 (by simp; omega))
      have HG1 := hide (gb_trans (unhide HG) hg1 (fun j hj => by cases hj; exact Or.inl (Nat.le_refl _)))
      have HST := hide (fun t => wo2_step (f := f) hls hf t)
      have HLT := hide hlt
      obtain ⟨A, hA⟩ := bl_ex (p1, p2)
      rw [hA.v] at hen
      clear hrg1 hg1 hls hf hA hlt
      go_wp2_with (refine wpl_dropB _ rfl _ _ 61 rfl und61 b1 n1 _ rfl (unhide HM1) s rfl hs ?_; intro w2 hm2 ht2)
      have HR2 := hide (gb_rg (unhide HR1) ht2.grown (by simp; omega) (by simp; omega))
      have HM2 := hide hm2
      have HG2 := hide (gb_trans (unhide HG1) ht2.grown (fun j hj => by cases hj; exact Or.inr rfl))
      clear hm2 ht2
      try go_frame
      go_roundw
      case rel => exact ⟨_, cnt1, unhide HR2, (unhide HM2).congr (unhide HST), unhide HG2⟩
      case measure => rw [(unhide HR2).left_eq, (unhide HR).left_eq]; exact unhide HLT
end Go.Proofs.Ytkkmikgeppkhiaa

namespace Go.Proofs.Ytkkmikgeppkhiaa
open Go.ChangeShapes Go.WideShapes Go.ChangeAt Go.RowKit Go.Maps Go.WideMaps
set_option linter.unusedVariables false
set_option linter.unusedSimpArgs false

section
variable {w : World} {ops : Array Oper} {o : Oper} {a : Act} {K : Act → World → Prop} {Q : Exit → Act → World → Prop} {E : Prop}
theorem step_loadAt {P : Program} (hgd : o.guard = none) (ty : TypeId) (x : Operand) (ho : o.op = .load ty x)
    (ad : Addr) (hx : a.eval x = .pointer (some ad)) (v : Value) (hrun : (loadVar ty ad).run P w = .ok v w) (h : K (a.put o.dst v) w) :
    if Region.wanted o (yielded ops a.tmps) = true then Oper.wp P o a w K Q else E := by
  rw [if_pos (by unfold Region.wanted; rw [hgd])]
  unfold Oper.wp
  simp only [execOp, ho, Instr.loadAt, Instr.sureAddr, hx, Sem.run_bind, Sem.run_pure, Result.andThen_ok, hrun]
  exact h
theorem step_build {P : Program} (hgd : o.guard = none) (t : TypeId) (parts : Array (Nat × Operand)) (ho : o.op = .build t parts) (cells : Array Value)
    (hf : P.built t (parts.map fun (i, x) => (i, a.eval x)).toList = some cells) (h : K (a.put o.dst (.agg cells)) w) :
    if Region.wanted o (yielded ops a.tmps) = true then Oper.wp P o a w K Q else E := by
  rw [if_pos (by unfold Region.wanted; rw [hgd])]
  refine wp_build t parts ho (by rw [hf]; rfl) ?_
  rw [hf]
  exact h
theorem step_putB (hgd : o.guard = none) (m x v : Operand) (t : TypeId) (hop : o.op = Op.mapUpdate t m x v) (ht : Try.prog.underlying t = some (.map 9 68)) (b n : Nat) (f : ByteArray → Option Two)
    (hm : a.eval m = .map (some b)) (hmp : Mp w b n f) (hn : n < maxLen) (s : ByteArray) (p : Two) (A : Array Value) (hA : Bl A p) (hx : a.eval x = .string s) (hv : a.eval v = .agg A) (hs : s.size ≤ maxLen)
    (h : ∀ w', Mp w' b (n + 1) (up f s p) → w.mapTurned w' b → K (a.put o.dst undef) w') :
    if Region.wanted o (yielded ops a.tmps) = true then Oper.wp Try.prog o a w K Q else E := by
  rw [if_pos (by unfold Region.wanted; rw [hgd])]
  obtain ⟨w', hrun, r1, r2⟩ := hmp.store ht hn s hs p
  rw [hA.v] at hrun
  unfold Oper.wp
  simp [execOp, hop, hm, hx, hv, hrun, Result.andThen]
  exact h w' r1 r2
end
def bcs (p : Two) : Array Value := #[.string p.1.nm, .string p.1.on, .string p.1.ov, .int .i64 p.1.kd, .int .i64 p.1.sd, .int .i64 p.1.x0, .int .i64 p.1.y0, .int .i64 p.1.z0, .int .i64 p.1.x1, .int .i64 p.1.y1, .int .i64 p.1.z1, .int .i64 p.1.ct, .int .i64 p.1.dx, .int .i64 p.1.dy, .int .i64 p.1.dz, .string p.2.nm, .string p.2.on, .string p.2.ov, .int .i64 p.2.kd, .int .i64 p.2.sd, .int .i64 p.2.x0, .int .i64 p.2.y0, .int .i64 p.2.z0, .int .i64 p.2.x1, .int .i64 p.2.y1, .int .i64 p.2.z1, .int .i64 p.2.ct, .int .i64 p.2.dx, .int .i64 p.2.dy, .int .i64 p.2.dz]
theorem bcs_bl (p : Two) : Bl (bcs p) p := ⟨rfl, rfl⟩
theorem built1 (f : Ft) : Try.prog.built 68 [(0, ftv f)] = some (bcs (f, ft0)) := by
  obtain ⟨a0, a1, a2, a3, a4, a5, a6, a7, a8, a9, a10, a11, a12, a13, a14⟩ := f
  kernel_rfl
theorem built2 (f g : Ft) : Try.prog.built 68 [(0, ftv f), (1, ftv g)] = some (bcs (f, g)) := by
  obtain ⟨a0, a1, a2, a3, a4, a5, a6, a7, a8, a9, a10, a11, a12, a13, a14⟩ := f
  obtain ⟨b0, b1, b2, b3, b4, b5, b6, b7, b8, b9, b10, b11, b12, b13, b14⟩ := g
  kernel_rfl
theorem Fl.built1 {F : Array Value} {f : Ft} (h : Fl F f) : ∃ A, Try.prog.built 68 [(0, .agg F)] = some A ∧ Bl A (f, ft0) := by
  rw [← h.v]
  exact ⟨_, Go.Proofs.Ytkkmikgeppkhiaa.built1 f, bcs_bl _⟩
theorem Fl.built2 {F G : Array Value} {f g : Ft} (h : Fl F f) (k : Fl G g) : ∃ A, Try.prog.built 68 [(0, .agg F), (1, .agg G)] = some A ∧ Bl A (f, g) := by
  rw [← h.v, ← k.v]
  exact ⟨_, Go.Proofs.Ytkkmikgeppkhiaa.built2 f g, bcs_bl _⟩
theorem field0 (p : Two) (W : World) : (Instr.field 68 (bothV p) 0).run Try.prog W = .ok (ftv p.1) W := by
  obtain ⟨⟨a0, a1, a2, a3, a4, a5, a6, a7, a8, a9, a10, a11, a12, a13, a14⟩, ⟨b0, b1, b2, b3, b4, b5, b6, b7, b8, b9, b10, b11, b12, b13, b14⟩⟩ := p
  kernel_rfl
theorem Bl.field0 {A F : Array Value} {p : Two} (h : Bl A p) (k : Fl F p.1) (W : World) : (Instr.field 68 (.agg A) 0).run Try.prog W = .ok (.agg F) W := by
  rw [← h.v, ← k.v]
  exact Go.Proofs.Ytkkmikgeppkhiaa.field0 p W
set_option maxHeartbeats 1000000 in
theorem key_any (x : Ft) (w : World) : Calls Try.prog 66 #[ftv x] w fun e w' => e = .returned (.string x.nm) ∧ Below w.heap.size w w' := by
  obtain ⟨F, hF⟩ := fl_ex x
  have c0 : F[0]? = some (.string x.nm) := by
    rw [← Array.getElem?_toList, hF.l]; rfl
  have hk : (w.alloc (.cells F 57)).cell? ⟨w.heap.size, 0, none⟩ = some (.string x.nm) := (ab_new w 57 F _ rfl).cell (by rw [hF.l]; rfl)
  have L0 := hide hk
  have hsz := hF.size
  rw [hF.v]
  clear hF hk
  have c1 : F[0]'(by omega) = .string x.nm := by
    rw [Array.getElem?_eq_getElem (by omega)] at c0
    exact Option.some.inj c0
  clear c0
  go_enter Try.func66, Try.ntmps66
  go_wp2_with fail
  go_ret
  exact ⟨rfl, ba (Below.refl _ _) _⟩
end Go.Proofs.Ytkkmikgeppkhiaa

namespace Go.Proofs.Ytkkmikgeppkhiaa
open Go.ChangeShapes Go.WideShapes Go.ChangeAt Go.RowKit Go.Maps Go.WideMaps
set_option linter.unusedVariables false
set_option linter.unusedSimpArgs false

section
variable {w : World} {o : Oper} {a : Act} {K : Act → World → Prop} {Q : Exit → Act → World → Prop}
theorem wp_loadAt {P : Program} (ty : TypeId) (x : Operand) (ho : o.op = .load ty x)
    (ad : Addr) (hx : a.eval x = .pointer (some ad)) (v : Value) (hrun : (loadVar ty ad).run P w = .ok v w) (h : K (a.put o.dst v) w) : Oper.wp P o a w K Q := by
  unfold Oper.wp
  simp only [execOp, ho, Instr.loadAt, Instr.sureAddr, hx, Sem.run_bind, Sem.run_pure, Result.andThen_ok, hrun]
  exact h
theorem wp_build1 {P : Program} (t : TypeId) (i : Nat) (x : Operand) (ho : o.op = .build t #[(i, x)]) (v : Value) (hx : a.eval x = v) (cells : Array Value) (hb : P.built t [(i, v)] = some cells) (h : K (a.put o.dst (.agg cells)) w) : Oper.wp P o a w K Q := by
  refine wp_build t #[(i, x)] ho (by simp [hx, hb]) ?_
  simpa [hx, hb] using h
theorem wp_putB (m x v : Operand) (t : TypeId) (hop : o.op = Op.mapUpdate t m x v) (ht : Try.prog.underlying t = some (.map 9 68)) (b n : Nat) (f : ByteArray → Option Two)
    (hm : a.eval m = .map (some b)) (hmp : Mp w b n f) (hn : n < maxLen) (s : ByteArray) (p : Two) (A : Array Value) (hA : Bl A p) (hx : a.eval x = .string s) (hv : a.eval v = .agg A) (hs : s.size ≤ maxLen)
    (h : ∀ w', Mp w' b (n + 1) (up f s p) → w.mapTurned w' b → K (a.put o.dst undef) w') : Oper.wp Try.prog o a w K Q := by
  obtain ⟨w', hrun, r1, r2⟩ := hmp.store ht hn s hs p
  rw [hA.v] at hrun
  unfold Oper.wp
  simp [execOp, hop, hm, hx, hv, hrun, Result.andThen]
  exact h w' r1 r2
end
noncomputable def reg65 (id : Nat) : Go.Code := match Try.f65.body with | some c => (regOf id c).getD .skip | none => .skip
set_option maxHeartbeats 4000000 in
set_option maxRecDepth 100000 in
theorem p65_5 {s0 s1 s3 s4 s5 s6 s8 s10 s11 s12 s13 s14 s15 s16 s17 s18 s19 s20 s21 s22 s23 s24 s25 s26 s27 s28 s29 s30 s31 s32 s33 s34 s35 s36 s37 s38 s39 s40 s41 s42 s43 s44 s45 : Value} {B0 g n : Nat} {f : ByteArray → Option Two} {x : Ft} {F A : Array Value} {V : World} {K_ : Act → World → Prop} (hn : n < maxLen) (hxs : x.nm.size ≤ maxLen)
    (HM : Hid (Mp V B0 n f)) (HN : Hid (ab V g 57 F)) (HLF : Hid (∀ W, ab W g 57 F → (loadVar 57 ⟨g, 0, none⟩).run Try.prog W = .ok (.agg F) W))
    (HK : Hid (∀ W, Calls Try.prog 66 #[.agg F] W fun e w' => e = .returned (.string x.nm) ∧ Below W.heap.size W w')) (HB : Hid (Try.prog.built 68 [(0, .agg F)] = some A)) (HA : Hid (Bl A (x, ft0)))
    (hQ : ∀ (W' : World), Mp W' B0 (n + 1) (up f x.nm (x, ft0)) → V.grownBy W' (some B0) → K_ { tmps := #[s0, s1, .func (.func 66) #[] #[], s3, s4, s5, s6, .map (some B0), s8, .pointer (some ⟨g, 0, none⟩), s10, s11, s12, s13, s14, s15, s16, s17, s18, s19, .map (some B0), .func (.func 66) #[] #[], .agg F, .string x.nm, .agg F, .agg A, s26, s27, s28, s29, s30, s31, s32, s33, s34, s35, s36, s37, s38, s39, s40, s41, s42, s43, s44, s45], defers := [] } W') :
    (reg65 5).wp Try.prog (Only K_) { tmps := #[s0, s1, .func (.func 66) #[] #[], s3, s4, s5, s6, .map (some B0), s8, .pointer (some ⟨g, 0, none⟩), s10, s11, s12, s13, s14, s15, s16, s17, s18, s19, s20, s21, s22, s23, s24, s25, s26, s27, s28, s29, s30, s31, s32, s33, s34, s35, s36, s37, s38, s39, s40, s41, s42, s43, s44, s45], defers := [] } V := by
  have HQ := hide hQ
  clear hQ
  conv => arg 2; whnf
  refine wp_region_inv (fun Lb A_ W => ∃ (u0 u1 u2 u3 u4 u5 u6 : Bool) (dd : Nat), Lb = #[u0, u1, u2, u3, u4, u5, u6] ∧ A_ = ({ tmps := #[s0, s1, .func (.func 66) #[] #[], s3, s4, s5, s6, .map (some B0), s8, .pointer (some ⟨g, 0, none⟩), s10, s11, s12, s13, s14, s15, s16, s17, s18, s19, (bif u0 then .map (some B0) else s20), (bif u1 then .func (.func 66) #[] #[] else s21), (bif u2 then .agg F else s22), (bif u3 then .string x.nm else s23), (bif u4 then .agg F else s24), (bif u5 then .agg A else s25), s26, s27, s28, s29, s30, s31, s32, s33, s34, s35, s36, s37, s38, s39, s40, s41, s42, s43, s44, s45], defers := [] } : Act) ∧ (u6 = false → Below V.heap.size V W) ∧ (u6 = true → Mp W B0 (n + 1) (up f x.nm (x, ft0)) ∧ V.grownBy W (some B0)) ∧ (u3 = true → u1 = true ∧ u2 = true) ∧ (u5 = true → u4 = true) ∧ (u6 = true → u0 = true ∧ u1 = true ∧ u2 = true ∧ u3 = true ∧ u4 = true ∧ u5 = true)) (by kernel_rfl) (by kernel_rfl) ?h0 ?hstep ?hend
  case h0 =>
    exact ⟨false, false, false, false, false, false, false, 0, rfl, rfl, (fun _ => Below.drew (Below.refl _ _)), zf, zf, zf, zf⟩
  case hstep =>
    intro Lb A_ W hI
    obtain ⟨u0, u1, u2, u3, u4, hI⟩ := hI
    obtain ⟨u5, u6, dd, hI⟩ := hI
    obtain ⟨hLb, hI⟩ := hI
    obtain ⟨hA, hI⟩ := hI
    obtain ⟨kS, hI⟩ := hI
    obtain ⟨kE, hI⟩ := hI
    obtain ⟨l3, hI⟩ := hI
    obtain ⟨l5, hI⟩ := hI
    have kF := hI
    clear hI
    subst hLb
    subst hA
    replace kS := hide kS
    replace kE := hide kE
    replace l3 := hide l3
    replace l5 := hide l5
    replace kF := hide kF
    refine ⟨?_, ?_, ?_, ?_, ?_, ?_, ?_, trivial⟩
    · intro h0 hd K hK
      have z : u0 = false := h0
      have z6_ : u6 = false := znb fun hu => z.symm.trans ((zu kF hu).1)
      subst z6_
      subst z
      clear h0 hd
      rw [if_pos (by rfl)]
      go_simp
      exact unhide hK _ _ ⟨true, u1, u2, u3, u4, u5, false, dd, rfl, rfl, (fun _ => (zu kS rfl)), zf, zu l3, zu l5, zf⟩
    · intro h0 hd K hK
      have z : u1 = false := h0
      have z6_ : u6 = false := znb fun hu => z.symm.trans ((zu kF hu).2.1)
      subst z6_
      subst z
      clear h0 hd
      rw [if_pos (by rfl)]
      go_simp
      exact unhide hK _ _ ⟨u0, true, u2, u3, u4, u5, false, dd, rfl, rfl, (fun _ => (zu kS rfl)), zf, (fun h => ⟨rfl, (zu l3 h).2⟩), zu l5, zf⟩
    · intro h0 hd K hK
      have z : u2 = false := h0
      have z6_ : u6 = false := znb fun hu => z.symm.trans ((zu kF hu).2.2.1)
      subst z6_
      subst z
      clear h0 hd
      rw [if_pos (by rfl)]
      refine wp_loadAt 57 (.tmp 9) (by rfl) ⟨g, 0, none⟩ (by rfl) (.agg F) (unhide HLF _ ((unhide HN).bel (zu kS rfl))) ?_
      go_frame
      exact unhide hK _ _ ⟨u0, u1, true, u3, u4, u5, false, dd, rfl, rfl, (fun _ => (zu kS rfl)), zf, (fun h => ⟨(zu l3 h).1, rfl⟩), zu l5, zf⟩
    · intro h0 hd K hK
      have z : u3 = false := h0
      have z6_ : u6 = false := znb fun hu => z.symm.trans ((zu kF hu).2.2.2.1)
      have zd : u1 = true ∧ u2 = true := by
        simp [Region.binds] at hd
        simp [hd]
      obtain ⟨rfl, rfl⟩ := zd
      subst z6_
      subst z
      clear h0 hd
      rw [if_pos (by rfl)]
      go_simp
      refine (unhide HK _).mono ?_
      rintro e w8 ⟨rfl, hb8⟩
      exact unhide hK _ _ ⟨u0, true, true, true, u4, u5, false, dd, rfl, rfl, (fun _ => bc (zu kS rfl) hb8), zf, (fun _ => ⟨rfl, rfl⟩), zu l5, zf⟩
    · intro h0 hd K hK
      have z : u4 = false := h0
      have z6_ : u6 = false := znb fun hu => z.symm.trans ((zu kF hu).2.2.2.2.1)
      subst z6_
      subst z
      clear h0 hd
      rw [if_pos (by rfl)]
      refine wp_loadAt 57 (.tmp 9) (by rfl) ⟨g, 0, none⟩ (by rfl) (.agg F) (unhide HLF _ ((unhide HN).bel (zu kS rfl))) ?_
      go_frame
      exact unhide hK _ _ ⟨u0, u1, u2, u3, true, u5, false, dd, rfl, rfl, (fun _ => (zu kS rfl)), zf, zu l3, (fun h => rfl), zf⟩
    · intro h0 hd K hK
      have z : u5 = false := h0
      have z6_ : u6 = false := znb fun hu => z.symm.trans ((zu kF hu).2.2.2.2.2)
      have zd : u4 = true := by
        simp [Region.binds] at hd
        simp [hd]
      obtain ⟨rfl⟩ := zd
      subst z6_
      subst z
      clear h0 hd
      rw [if_pos (by rfl)]
      refine wp_build1 68 0 (.tmp 24) (by rfl) (.agg F) (by rfl) A (unhide HB) ?_
      go_frame
      exact unhide hK _ _ ⟨u0, u1, u2, u3, true, true, false, dd, rfl, rfl, (fun _ => (zu kS rfl)), zf, zu l3, (fun _ => rfl), zf⟩
    · intro h0 hd K hK
      have z : u6 = false := h0
      have zd0 : u0 = true ∧ u3 = true ∧ u5 = true := by
        simp [Region.binds] at hd
        simp [hd]
      have zd : u0 = true ∧ u3 = true ∧ u5 = true ∧ u1 = true ∧ u2 = true ∧ u4 = true := ⟨zd0.1, zd0.2.1, zd0.2.2, (zu l3 zd0.2.1).1, (zu l3 zd0.2.1).2, (zu l5 zd0.2.2)⟩
      obtain ⟨rfl, rfl, rfl, rfl, rfl, rfl⟩ := zd
      subst z
      clear h0 hd
      rw [if_pos (by rfl)]
      refine wp_putB (.tmp 20) (.tmp 23) (.tmp 25) 60 (by rfl) und60 B0 n f (by rfl) ((unhide HM).bel (zu kS rfl)) hn x.nm (x, ft0) A (unhide HA) (by rfl) (by rfl) hxs ?_
      intro w2 hm2 ht2
      try go_frame
      exact unhide hK _ _ ⟨true, true, true, true, true, true, true, dd, rfl, rfl, (fun h => Bool.noConfusion h), (fun _ => ⟨hm2, gb_trans (gb_of (zu kS rfl) _) ht2.grown (fun j hj => by cases hj; exact Or.inr rfl)⟩), (fun _ => ⟨rfl, rfl⟩), (fun _ => rfl), (fun _ => ⟨rfl, rfl, rfl, rfl, rfl, rfl⟩)⟩
  case hend =>
    intro Lb A_ W hI
    obtain ⟨u0, u1, u2, u3, u4, hI⟩ := hI
    obtain ⟨u5, u6, dd, hI⟩ := hI
    obtain ⟨hLb, hI⟩ := hI
    obtain ⟨hA, hI⟩ := hI
    obtain ⟨kS, hI⟩ := hI
    obtain ⟨kE, hI⟩ := hI
    obtain ⟨l3, hI⟩ := hI
    obtain ⟨l5, hI⟩ := hI
    have kF := hI
    clear hI
    subst hLb
    subst hA
    intro hL
    have hl : u0 = true ∧ u1 = true ∧ u2 = true ∧ u3 = true ∧ u4 = true ∧ u5 = true ∧ u6 = true := by
      have h2 := congrArg Array.toList hL
      simpa [List.replicate] using h2
    obtain ⟨rfl, rfl, rfl, rfl, rfl, rfl, rfl⟩ := hl
    exact unhide HQ _ (kE rfl).1 (kE rfl).2
end Go.Proofs.Ytkkmikgeppkhiaa

namespace Go.Proofs.Ytkkmikgeppkhiaa
open Go.ChangeShapes Go.WideShapes Go.ChangeAt Go.RowKit Go.Maps Go.WideMaps
set_option linter.unusedVariables false
set_option linter.unusedSimpArgs false

theorem SlG.load {F : Array Value} {f : Ft} (hF : Fl F f) {w : World} {u : Option Addr} {p po : Nat} {fs : List Ft} (h : SlG ftc 15 w u p po fs) {i : Nat} (hi : fs[i]? = some f) : u = some ⟨p, po, none⟩ ∧ p < w.heap.size ∧ (loadVar 57 ⟨p, po + i * 15, none⟩).run Try.prog w = .ok (.agg F) w := by
  obtain ⟨e, hl, hc⟩ := h.at hi
  exact ⟨e, hl, hF.load hc⟩
theorem wpl_build2 {P : Program} {ops : Array Oper} {rest : List Oper} {o : Oper} {a : Act} {w : World} {Q : Exit → Act → World → Prop} (hg : o.guard = none) (t : TypeId) (i j : Nat) (x y : Operand) (ho : o.op = .build t #[(i, x), (j, y)]) (v u : Value) (hx : a.eval x = v) (hy : a.eval y = u) (cells : Array Value)
    (hb : P.built t [(i, v), (j, u)] = some cells) (h : wpList P ops Q rest (a.put o.dst (.agg cells)) w) : wpList P ops Q (o :: rest) a w := by
  refine wpl_build hg t _ ho cells ?_ h
  simp [hx, hy, hb]
theorem wpl_putA {ops : Array Oper} {rest : List Oper} {o : Oper} {a : Act} {w : World} {Q : Exit → Act → World → Prop} (hg : o.guard = none) (m x v : Operand) (t : TypeId) (hop : o.op = Op.mapUpdate t m x v) (ht : Try.prog.underlying t = some (.map 9 68)) (b n : Nat) (f : ByteArray → Option Two)
    (hm : a.eval m = .map (some b)) (hmp : Mp w b n f) (hn : n < maxLen) (s : ByteArray) (p : Two) (A : Array Value) (hA : Bl A p) (hx : a.eval x = .string s) (hv : a.eval v = .agg A) (hs : s.size ≤ maxLen)
    (h : ∀ w', Mp w' b (n + 1) (up f s p) → w.mapTurned w' b → wpList Try.prog ops Q rest (a.put o.dst undef) w') : wpList Try.prog ops Q (o :: rest) a w :=
  wpl_putB w hg m x v t hop ht b n f hm hmp hn s p hx (by rw [hv, hA.v]) hs h
set_option maxRecDepth 100000 in
set_option maxHeartbeats 8000000 in
theorem both_any (u1 : Option Addr) (p1 o1 n1 c1 : Nat) (B : List Ft) (u2 : Option Addr) (p2 o2 n2 c2 : Nat) (L : List Ft) (w : World) (hl1 : B.length = n1) (hn1 : n1 ≤ 4096) (hu1 : SlG ftc 15 w u1 p1 o1 B) (hl2 : L.length = n2) (hn2 : n2 ≤ 4096) (hu2 : SlG ftc 15 w u2 p2 o2 L)
    (hd1 : Dif B) (hd2 : Dif L) (hs1 : ∀ f ∈ B, f.nm.size ≤ maxLen) (hs2 : ∀ f ∈ L, f.nm.size ≤ maxLen) :
    Calls Try.prog 65 #[.slice u1 n1 c1, .slice u2 n2 c2, .func (.func 66) #[] #[]] w fun e w' => e = .returned (.map (some w.heap.size)) ∧ Mp w' w.heap.size (n1 + n2) (pr B L) ∧ Below w.heap.size w w' := by
  have HU1 := hide hu1
  have HU2 := hide hu2
  have HL1 := hide hl1
  have HL2 := hide hl2
  have HS1 := hide (fun i f (h : B[i]? = some f) => (⟨hs1 f (List.mem_of_getElem? h), fun s => st1_succ hd1 h s⟩ : f.nm.size ≤ maxLen ∧ ∀ s, up (st1 B i) f.nm (f, ft0) s = st1 B (i + 1) s))
  have HS2 := hide (fun i f (h : L[i]? = some f) => (⟨hs2 f (List.mem_of_getElem? h), fun s => st2_succ (B := B) hd2 h s⟩ : f.nm.size ≤ maxLen ∧ ∀ s, up (st2 B L i) f.nm ((((st2 B L i f.nm).getD p0).1), f) s = st2 B L (i + 1) s))
  clear hu1 hu2 hl1 hl2 hd1 hd2 hs1 hs2
  have hmm := @run_makeMap Try.prog
  go_enter Try.func65, Try.ntmps65
  go_wp2_with fail
  go_loopw [16] (fun s W => ∃ i : Nat, s = .int .i64 (i : Int) ∧ i ≤ n1 ∧ Mp W w.heap.size i (st1 B i) ∧ Below w.heap.size w W) (fun s _ => n1 - (intOf s).toNat)
  case atStart => exact ⟨0, rfl, Nat.zero_le _, (Mp.made w).congr (st1_zero B), ba (Below.refl _ _) _⟩
  case round =>
    obtain ⟨i, rfl, hi, hm, hw⟩ := hrel
    have HM := hide hm
    have HW := hide hw
    have hml := hm.lt
    clear hm hw
    by_cases h : i < n1
    · have i1 : (i : Int) < (n1 : Int) := by omega
      have i0 : (0 : Int) ≤ (i : Int) := Int.natCast_nonneg _
      have iz : decide ((i : Int) < (n1 : Int)) = true := decide_eq_true i1
      obtain ⟨f, hx⟩ := get_some (unhide HL1) h
      obtain ⟨F, hF⟩ := fl_ex f
      obtain ⟨rfl, hpw, hld⟩ := SlG.load hF ((unhide HU1).bel (unhide HW)) hx
      have LD := hide hld
      have HI := hide hF.info
      have HO := hide hF.one
      have hsz := hF.size
      obtain ⟨hfs, hst⟩ := unhide HS1 i f hx
      have HST := hide hst
      have HK := hide (fun W => key_any f W)
      rw [hF.v] at HK
      obtain ⟨A, hbA, hA⟩ := hF.built1
      have HB := hide hbA
      have HA := hide hA
      have HLF := hide (fun W (h : ab W wr.heap.size 57 F) => hF.load0 h)
      clear hld hx hst hF hbA hA
      go_wp2_with (first | refine wpl_loadAt rfl 57 _ rfl _ rfl _ (unhide LD) ?_ | refine wpl_putNew rfl 57 _ _ rfl wr _ F 57 rfl rfl (unhide HI) (by rw [hsz]; rfl) (unhide HO) ?_)
      have HN := hide (ab_new wr 57 F _ rfl)
      have HMN := hide ((unhide HM).bel (ba (Below.refl _ _) (.cells F 57)))
      have HWN := hide (ba (unhide HW) (.cells F 57))
      have hgs : wr.heap.size < (wr.alloc (.cells F 57)).heap.size := by simp
      generalize wr.alloc (.cells F 57) = V at *
      refine Go.Code.wp_mono (Only.to (fun _ _ h => h)) (p65_5 (x := f) (F := F) (A := A) (g := wr.heap.size) (f := st1 B i) (by unfold maxLen; omega) hfs HMN HN HLF HK HB HA (fun W' hm' hg' => ?_))
      have HM2 := hide hm'
      have HG2 := hide hg'
      clear hm' hg'
      go_wp2_with fail
      go_roundw
      case rel => exact ⟨i + 1, by simp, h, (unhide HM2).congr (unhide HST), Below.grown (unhide HWN) (unhide HG2) (by have := (unhide HWN).size; omega) (fun j hj => by cases hj; exact Nat.le_refl _)⟩
      case measure => simp only [intOf]; omega
    · have i1 : ¬ (i : Int) < (n1 : Int) := by omega
      have iz : decide ((i : Int) < (n1 : Int)) = false := decide_eq_false i1
      have HM2 := hide (((unhide HM).mono hi).congr (fun s => st1_end (by rw [unhide HL1]; omega) L s))
      go_wp2_with fail
      go_loopw [29] (fun s W => ∃ i : Nat, s = .int .i64 (i : Int) ∧ i ≤ n2 ∧ Mp W w.heap.size (n1 + i) (st2 B L i) ∧ Below w.heap.size w W) (fun s _ => n2 - (intOf s).toNat)
      case atStart => exact ⟨0, rfl, Nat.zero_le _, unhide HM2, unhide HW⟩
      case round =>
        obtain ⟨i, rfl, hi, hm, hw⟩ := hrel
        have HM := hide hm
        have HW := hide hw
        have hml := hm.lt
        clear hm hw
        by_cases h : i < n2
        · have i1 : (i : Int) < (n2 : Int) := by omega
          have i0 : (0 : Int) ≤ (i : Int) := Int.natCast_nonneg _
          have iz : decide ((i : Int) < (n2 : Int)) = true := decide_eq_true i1
          obtain ⟨f, hx⟩ := get_some (unhide HL2) h
          obtain ⟨F, hF⟩ := fl_ex f
          obtain ⟨rfl, hpw, hld⟩ := SlG.load hF ((unhide HU2).bel (unhide HW)) hx
          have LD := hide hld
          have HI := hide hF.info
          have HO := hide hF.one
          have hsz := hF.size
          obtain ⟨hfs, hst⟩ := unhide HS2 i f hx
          have HST := hide hst
          have HFS := hide hfs
          have HK := hide (fun W => key_any f W)
          rw [hF.v] at HK
          obtain ⟨P, hP⟩ := bl_ex ((st2 B L i f.nm).getD p0)
          obtain ⟨G, hG⟩ := fl_ex ((st2 B L i f.nm).getD p0).1
          obtain ⟨A, hbA, hA⟩ := hG.built2 hF
          have HB := hide hbA
          have HA := hide hA
          have HLF := hide (fun W (h : ab W wr.heap.size 57 F) => hF.load0 h)
          have hfd := hP.field0 hG
          have HLK := hide (fun W (h : Mp W w.heap.size (n1 + i) (st2 B L i)) => (by have := h.get und60 f.nm (unhide HFS); rw [hP.v] at this; exact this : (Instr.lookup 60 (.map (some w.heap.size)) (.string f.nm) false).run Try.prog W = .ok (.agg P) W))
          clear hld hx hst hF hbA hA hP hG hfs
          have HN := hide (ab_new wr 57 F _ rfl)
          have HMN := hide ((unhide HM).bel (ba (Below.refl _ _) (.cells F 57)))
          have HWN := hide (ba (unhide HW) (.cells F 57))
          go_wp2_with (first | refine wpl_loadAt rfl 57 (.tmp 11) rfl _ rfl _ (unhide HLF _ (unhide HN)) ?_ | refine wpl_loadAt rfl 57 (.tmp 31) rfl _ rfl _ (unhide LD) ?_ | refine wpl_putNew rfl 57 _ _ rfl wr _ F 57 rfl rfl (unhide HI) (by rw [hsz]; rfl) (unhide HO) ?_)
          refine (unhide HK _).mono ?_
          rintro e W1 ⟨rfl, hb1⟩
          have HN1 := hide ((unhide HN).bel hb1)
          have HM1 := hide ((unhide HMN).bel hb1)
          have HW1 := hide (bc (unhide HWN) hb1)
          have hlk := unhide HLK _ (unhide HM1)
          clear hb1
          go_wp2_with (first
            | refine wpl_loadAt rfl 57 (.tmp 11) rfl _ rfl _ (unhide HLF _ (unhide HN1)) ?_
            | refine wpl_build2 rfl 68 0 1 (.tmp 41) (.tmp 42) rfl (.agg G) (.agg F) rfl rfl A (unhide HB) ?_
            | (refine wpl_putA rfl (.tmp 36) (.tmp 37) (.tmp 43) 60 rfl und60 w.heap.size (n1 + i) (st2 B L i) rfl (unhide HM1) (by unfold maxLen; omega) f.nm (((st2 B L i f.nm).getD p0).1, f) A (unhide HA) rfl rfl (unhide HFS) ?_; intro w2 hm2 ht2; have HM2 := hide hm2; have HT2 := hide ht2.grown; clear hm2 ht2))
          go_roundw
          case rel => exact ⟨i + 1, by simp, h, (unhide HM2).congr (unhide HST), Below.grown (unhide HW1) (unhide HT2) (unhide HW1).size (fun j hj => by cases hj; exact Nat.le_refl _)⟩
          case measure => simp only [intOf]; omega
        · have i1 : ¬ (i : Int) < (n2 : Int) := by omega
          have iz : decide ((i : Int) < (n2 : Int)) = false := decide_eq_false i1
          go_wp2_with fail
          go_ret
          exact ⟨rfl, ((unhide HM).mono (by omega)).congr (fun s => st2_end (by rw [unhide HL2]; omega) s), unhide HW⟩
end Go.Proofs.Ytkkmikgeppkhiaa

namespace Go.Proofs.Ytkkmikgeppkhiaa
open Go.ChangeShapes Go.WideShapes Go.ChangeAt Go.RowKit Go.Maps Go.WideMaps
set_option linter.unusedVariables false
set_option linter.unusedSimpArgs false

/-- a list that a call is handed, its names different -/
structure Lst (w : World) (u : Option Addr) (p po n : Nat) (fs : List Ft) : Prop where
  len : fs.length = n
  le : n ≤ 4096
  at_ : SlG ftc 15 w u p po fs
  dif : Dif fs
  size : ∀ f ∈ fs, f.nm.size ≤ maxLen
theorem Lst.bel {w W : World} {u : Option Addr} {p po n : Nat} {fs : List Ft} (h : Lst w u p po n fs) (hb : Below w.heap.size w W) : Lst W u p po n fs := ⟨h.len, h.le, h.at_.bel hb, h.dif, h.size⟩
theorem allb_any (u1 : Option Addr) (p1 o1 n1 c1 : Nat) (B : List Ft) (u2 : Option Addr) (p2 o2 n2 c2 : Nat) (L : List Ft) (w : World) (h1 : Lst w u1 p1 o1 n1 B) (h2 : Lst w u2 p2 o2 n2 L) :
    Calls Try.prog 46 #[.slice u1 n1 c1, .slice u2 n2 c2] w fun e w' => e = .returned (.map (some w.heap.size)) ∧ Mp w' w.heap.size (n1 + n2) (pr B L) ∧ Below w.heap.size w w' := by
  have HB := hide (both_any u1 p1 o1 n1 c1 B u2 p2 o2 n2 c2 L w h1.len h1.le h1.at_ h2.len h2.le h2.at_ h1.dif h2.dif h1.size h2.size)
  clear h1 h2
  go_enter Try.func46, Try.ntmps46
  go_wp2_with fail
  refine (unhide HB).mono ?_
  rintro e W1 ⟨rfl, hm, hb⟩
  have HM := hide hm
  have HW := hide hb
  clear hm hb
  go_wp2_with fail
  go_ret
  exact ⟨rfl, unhide HM, unhide HW⟩
set_option maxRecDepth 100000 in
set_option maxHeartbeats 4000000 in
theorem edits_any (u1 : Option Addr) (p1 o1 n1 c1 : Nat) (B : List Ft) (u2 : Option Addr) (p2 o2 n2 c2 : Nat) (L : List Ft) (w : World) (h1 : Lst w u1 p1 o1 n1 B) (h2 : Lst w u2 p2 o2 n2 L) :
    Calls Try.prog 31 #[.slice u1 n1 c1, .slice u2 n2 c2] w fun e w' => e = .returned (.map (some w.heap.size)) ∧ Mp w' w.heap.size (n1 + n2) (eds B L) ∧ Below w.heap.size w w' := by
  have HB := hide (allb_any u1 p1 o1 n1 c1 B u2 p2 o2 n2 c2 L w h1 h2)
  clear h1 h2
  go_enter Try.func31, Try.ntmps31
  go_wp2_with fail
  refine (unhide HB).mono ?_
  rintro e W1 ⟨rfl, hm, hb⟩
  have HM := hide hm
  have HW := hide hb
  have hmw := hm.lt
  clear hm hb
  go_wp2_with (refine wpl_rangeB _ rfl _ 61 rfl und61 w.heap.size (n1 + n2) (pr B L) rfl (unhide HM) ?_; intro w0 cnt0 hrg0 hg0 hs0)
  have R0 := hide (hrg0 : Rg w0 w.heap.size W1.heap.size (n1 + n2) (pr B L) (fun s => (pr B L s).isSome) cnt0)
  have G0 := hide (bc (unhide HW) (gb_below hg0))
  clear hrg0 hg0
  have hcs : (pr B L) = cut (pr B L) (fun s => (pr B L s).isSome) := funext (cut_start _)
  have HCS := hide hcs
  clear hcs
  go_frame
  go_loopw [6] (fun _ W => ∃ left cnt, Rg W w.heap.size W1.heap.size (n1 + n2) (cut (pr B L) left) left cnt ∧ Below w.heap.size w W) (fun _ W => W.rangeLeft w.heap.size W1.heap.size)
  case atStart => exact ⟨_, _, by have := unhide R0; rw [unhide HCS] at this; have h2 := this; rw [← unhide HCS] at h2; rw [← unhide HCS]; exact h2, unhide G0⟩
  case round =>
    obtain ⟨left, cnt, hrg, hw⟩ := hrel
    have HR := hide hrg
    have HW := hide hw
    clear hrg hw
    go_wp2_with (first
      | (at_next; refine wpl_nextB _ rfl _ rfl w.heap.size W1.heap.size (n1 + n2) _ left cnt rfl (unhide HR) ?_ ?_)
      | go_in)
    · intro hl0
      have HL0 := hide hl0
      clear hl0
      go_wp2_with fail
      go_ret
      exact ⟨rfl, (unhide HR).map.congr (cut_end (unhide HL0)), unhide HW⟩
    · intro s p1_ p2_ w1 cnt1 hs hls hf hrg1 hlt hg1 hs1 hen
      have hmn := (unhide HR).map.lt
      have HR1 := hide hrg1
      have HW1 := hide (Below.grown (unhide HW) hg1 (unhide HW).size (fun j hj => by cases hj; omega))
      have HSA := hide (fun e t => cut_same hf e t)
      have HSB := hide (fun e t => cut_other hf e t)
      have HLT := hide hlt
      obtain ⟨A, hA⟩ := bl_ex (p1_, p2_)
      rw [hA.v] at hen
      have HI := hide hA.info
      have HO := hide hA.one
      have hsz := hA.size
      have HLA := hide (fun W (h : ab W w1.heap.size 68 A) => hA.load h)
      have HSM := hide (fun W => same_any (p1_, p2_) W)
      rw [hA.v] at HSM
      have HN := hide (ab_new w1 68 A _ rfl)
      have HR2 := hide ((unhide HR1).bel (ba (Below.refl _ _) (.cells A 68)))
      have HW2 := hide (ba (unhide HW1) (.cells A 68))
      have hll : (left s && !sEq s s) = false := by rw [sEq_refl]; simp
      have HLL := hide hll
      clear hrg1 hg1 hls hf hA hlt hll hs1
      go_wp2_with (first | refine wpl_putNew rfl 68 _ _ rfl w1 _ A 68 rfl rfl (unhide HI) (by rw [hsz]; rfl) (unhide HO) ?_ | refine wpl_loadAt rfl 68 (.tmp 7) rfl _ rfl _ (unhide HLA _ (unhide HN)) ?_)
      refine (unhide HSM _).mono ?_
      rintro e W2 ⟨rfl, hb2⟩
      have HR3 := hide ((unhide HR2).bel hb2)
      have HW3 := hide (bc (unhide HW2) hb2)
      clear hb2
      cases hq : fE p1_ p2_
      · have HST := hide (unhide HSB hq)
        clear hq
        go_wp2_with fail
        go_roundw
        case rel => exact ⟨_, cnt1, by have := unhide HR3; rw [show cut (pr B L) left = cut (pr B L) (fun t => left t && !sEq s t) from funext (unhide HST)] at this; exact this, unhide HW3⟩
        case measure => rw [(unhide HR3).left_eq, (unhide HR).left_eq]; exact unhide HLT
      · have HST := hide (unhide HSA hq)
        clear hq
        go_wp2_with (refine wpl_delB _ rfl _ _ 61 rfl und61 w.heap.size W1.heap.size (n1 + n2) _ _ cnt1 rfl (unhide HR3) s rfl hs (unhide HLL) ?_; intro w2 cnt2 hr2 hle2 ht2)
        have HR4 := hide hr2
        have HW4 := hide (Below.grown (unhide HW3) ht2.grown (unhide HW3).size (fun j hj => by cases hj; exact Nat.le_refl _))
        have HLE := hide hle2
        clear hr2 ht2 hle2
        try go_frame
        go_roundw
        case rel => exact ⟨_, cnt2, by have := unhide HR4; rw [show dn (cut (pr B L) left) s = cut (pr B L) (fun t => left t && !sEq s t) from funext (unhide HST)] at this; exact this, unhide HW4⟩
        case measure => rw [(unhide HR4).left_eq, (unhide HR).left_eq]; have := unhide HLE; have := unhide HLT; omega
end Go.Proofs.Ytkkmikgeppkhiaa
