/-
  DERIVED: THE SHELF's CONTRACTS AT THIS DUMP, IN PLAIN WORDS (tools/lay-plain.mjs out of 'YtkkmikgeppkhiaaIterS.lean', which tools/lay-shelf.mjs wrote): THE SAME DECLARATIONS UNDER THE SAME NAMES: 'import', 'namespace', 'open', 'def', 'theorem' AND NOTHING ELSE: no command of the shelf's: FOR A HAND-IN. Each laying: the table of numbers ('.._ren') and one theorem, a field a fact of the dump's own or the kernel's comparison; each contract: ONE APPLICATION. The sorted names of a map. The program's edits. Rows of edits: that two are the same, marks on them, that these are held. The program's Edits answers as the model at every two lists of features; it changes none of them, and its answer owns its memory.
-/
import Derived.Shelf.SlIter.Nil
import Derived.Shelf.SortM.Plain
import Derived.Shelf.SortM.SortNone
import Derived.Shelf.SlGeneric
import Derived.Ground.GgzProg
import Derived.Ground.SlgmProg
import Derived.Test.YtkkmikgeppkhiaaProg
import Derived.Test.YtkkmikgeppkhiaaMga
import Derived.Test.YtkkmikgeppkhiaaMgd
import Derived.Test.YtkkmikgeppkhiaaMgb
import Derived.Test.YtkkmikgeppkhiaaFtRows
import Derived.Test.YtkkmikgeppkhiaaFtTo
import Derived.Test.YtkkmikgeppkhiaaFtSz
import Derived.Test.YtkkmikgeppkhiaaFtMark
import Derived.Test.YtkkmikgeppkhiaaFtOpen
import Derived.Test.YtkkmikgeppkhiaaChecked
import Derived.Test.YtkkmikgeppkhiaaRows
import Derived.ChangeOld
import Derived.Lib.SmallJoins
namespace Go.Proofs
open Go.Shelf
def Try.keys33_ren : Go.Shelf.Ren := ⟨fun | 7 => 33 | 10 => 55 | n => n, fun | 23 => 61 | 26 => 9 | 3 => 68 | 28 => 65 | 0 => 0 | 27 => 64 | 33 => 86 | 4 => 4 | n => n, fun | n => n⟩
theorem Try.keys33 : Go.Proofs.SlLaysZ.n7 Try.prog Try.keys33_ren := {
  mixed := by kernel_rfl
  f7 := ⟨Try.f33.name, by decide, Try.func33.trans (congrArg some (by kernel_rfl))⟩
  f10 := ⟨Try.f55.name, by decide, Try.func55.trans (congrArg some (by kernel_rfl))⟩
  t0 := Try.underlying0
  a0 := Try.isAgg0
  z0 := Try.sizeOf0
  v0 := Try.zeroValue0
  t4 := Try.underlying4
  a4 := Try.isAgg4
  z4 := Try.sizeOf4
  v4 := Try.zeroValue4
  t23 := Try.underlying61
  a23 := Try.isAgg61
  z23 := Try.sizeOf61
  v23 := Try.zeroValue61
  t26 := Try.underlying9
  a26 := Try.isAgg9
  z26 := Try.sizeOf9
  v26 := Try.zeroValue9
  t27 := Try.underlying64
  a27 := Try.isAgg64
  z27 := Try.sizeOf64
  v27 := Try.zeroValue64
  t28 := Try.underlying65
  a28 := Try.isAgg65
  z28 := Try.sizeOf65
  v28 := Try.zeroValue65
  t33 := Try.underlying86
  a33 := Try.isAgg86
  z33 := Try.sizeOf86
  v33 := Try.zeroValue86 }
def Try.sorted32_ren : Go.Shelf.Ren := ⟨fun | 6 => 32 | 8 => 53 | 9 => 54 | 11 => 69 | 13 => 71 | 12 => 70 | 23 => 88 | 24 => 89 | 14 => 79 | 15 => 80 | 16 => 81 | 17 => 82 | 18 => 83 | 19 => 84 | 20 => 85 | 21 => 86 | 22 => 87 | 25 => 99 | 26 => 100 | 27 => 101 | 28 => 102 | 29 => 103 | 30 => 104 | 31 => 111 | n => n, fun | 26 => 9 | 28 => 65 | 24 => 34 | 0 => 0 | 3 => 3 | 37 => 111 | 48 => 128 | 50 => 130 | 4 => 4 | 40 => 121 | 39 => 120 | 45 => 115 | 5 => 5 | 9 => 9 | 51 => 136 | 55 => 140 | 57 => 147 | 58 => 148 | 33 => 86 | n => n, fun | n => n⟩
theorem Try.sorted32 : Go.Proofs.SlLaysZ.n6 Try.prog Try.sorted32_ren := {
  mixed := by kernel_rfl
  f6 := ⟨Try.f32.name, by decide, Try.func32.trans (congrArg some (by kernel_rfl))⟩
  f8 := ⟨Try.f53.name, by decide, Try.func53.trans (congrArg some (by kernel_rfl))⟩
  f11 := ⟨Try.f69.name, by decide, Try.func69.trans (congrArg some (by kernel_rfl))⟩
  t0 := Try.underlying0
  a0 := Try.isAgg0
  z0 := Try.sizeOf0
  v0 := Try.zeroValue0
  t24 := Try.underlying34
  a24 := Try.isAgg34
  z24 := Try.sizeOf34
  v24 := Try.zeroValue34
  t26 := Try.underlying9
  a26 := Try.isAgg9
  z26 := Try.sizeOf9
  v26 := Try.zeroValue9
  t28 := Try.underlying65
  a28 := Try.isAgg65
  z28 := Try.sizeOf65
  v28 := Try.zeroValue65
  i26 := by kernel_rfl }
def Try.sort54_ren : Go.Shelf.Ren := ⟨fun | 6 => 54 | 8 => 71 | 9 => 70 | 19 => 88 | 20 => 89 | 21 => 79 | 22 => 80 | 23 => 81 | 24 => 82 | 25 => 83 | 26 => 84 | 27 => 85 | 28 => 86 | 29 => 87 | 36 => 99 | 31 => 100 | 32 => 101 | 37 => 102 | 38 => 103 | 39 => 104 | 41 => 111 | n => n, fun | 27 => 34 | 29 => 9 | 3 => 3 | 32 => 111 | 26 => 34 | 0 => 0 | 44 => 128 | 46 => 130 | 4 => 4 | 36 => 121 | 35 => 120 | 41 => 115 | 5 => 5 | 9 => 9 | 53 => 136 | 57 => 140 | 63 => 147 | 64 => 148 | n => n, fun | n => n⟩
theorem Try.sort54 : Go.Proofs.SlLaysM.n6 Try.prog Try.sort54_ren := {
  mixed := by kernel_rfl
  f6 := ⟨Try.f54.name, by decide, Try.func54.trans (congrArg some (by kernel_rfl))⟩
  f8 := Try.func71.trans (congrArg some (by kernel_rfl))
  f9 := ⟨Try.f70.name, by decide, Try.func70.trans (congrArg some (by kernel_rfl))⟩
  f19 := Try.func88.trans (congrArg some (by kernel_rfl))
  f20 := Try.func89.trans (congrArg some (by kernel_rfl))
  f21 := ⟨Try.f79.name, by decide, Try.func79.trans (congrArg some (by kernel_rfl))⟩
  f22 := ⟨Try.f80.name, by decide, Try.func80.trans (congrArg some (by kernel_rfl))⟩
  f23 := ⟨Try.f81.name, by decide, Try.func81.trans (congrArg some (by kernel_rfl))⟩
  f24 := ⟨Try.f82.name, by decide, Try.func82.trans (congrArg some (by kernel_rfl))⟩
  f25 := ⟨Try.f83.name, by decide, Try.func83.trans (congrArg some (by kernel_rfl))⟩
  f26 := ⟨Try.f84.name, by decide, Try.func84.trans (congrArg some (by kernel_rfl))⟩
  f27 := ⟨Try.f85.name, by decide, Try.func85.trans (congrArg some (by kernel_rfl))⟩
  f28 := ⟨Try.f86.name, by decide, Try.func86.trans (congrArg some (by kernel_rfl))⟩
  f29 := ⟨Try.f87.name, by decide, Try.func87.trans (congrArg some (by kernel_rfl))⟩
  f31 := Try.func100.trans (congrArg some (by kernel_rfl))
  f32 := Try.func101.trans (congrArg some (by kernel_rfl))
  f36 := ⟨Try.f99.name, by decide, Try.func99.trans (congrArg some (by kernel_rfl))⟩
  f37 := ⟨Try.f102.name, by decide, Try.func102.trans (congrArg some (by kernel_rfl))⟩
  f38 := ⟨Try.f103.name, by decide, Try.func103.trans (congrArg some (by kernel_rfl))⟩
  f39 := ⟨Try.f104.name, by decide, Try.func104.trans (congrArg some (by kernel_rfl))⟩
  f41 := ⟨Try.f111.name, by decide, Try.func111.trans (congrArg some (by kernel_rfl))⟩
  t0 := Try.underlying0
  a0 := Try.isAgg0
  z0 := Try.sizeOf0
  v0 := Try.zeroValue0
  t3 := Try.underlying3
  a3 := Try.isAgg3
  z3 := Try.sizeOf3
  v3 := Try.zeroValue3
  t4 := Try.underlying4
  a4 := Try.isAgg4
  z4 := Try.sizeOf4
  v4 := Try.zeroValue4
  t5 := Try.underlying5
  a5 := Try.isAgg5
  z5 := Try.sizeOf5
  v5 := Try.zeroValue5
  t9 := Try.underlying9
  a9 := Try.isAgg9
  z9 := Try.sizeOf9
  v9 := Try.zeroValue9
  t26 := Try.underlying34
  a26 := Try.isAgg34
  z26 := Try.sizeOf34
  v26 := Try.zeroValue34
  t27 := Try.underlying34
  a27 := Try.isAgg34
  z27 := Try.sizeOf34
  v27 := Try.zeroValue34
  t29 := Try.underlying9
  a29 := Try.isAgg9
  z29 := Try.sizeOf9
  v29 := Try.zeroValue9
  t32 := Try.underlying111
  a32 := Try.isAgg111
  z32 := Try.sizeOf111
  v32 := Try.zeroValue111
  t35 := Try.underlying120
  a35 := Try.isAgg120
  z35 := Try.sizeOf120
  v35 := Try.zeroValue120
  t36 := Try.underlying121
  a36 := Try.isAgg121
  z36 := Try.sizeOf121
  v36 := Try.zeroValue121
  t41 := Try.underlying115
  a41 := Try.isAgg115
  z41 := Try.sizeOf115
  v41 := Try.zeroValue115
  t44 := Try.underlying128
  a44 := Try.isAgg128
  z44 := Try.sizeOf128
  v44 := Try.zeroValue128
  t46 := Try.underlying130
  a46 := Try.isAgg130
  z46 := Try.sizeOf130
  v46 := Try.zeroValue130
  t53 := Try.underlying136
  a53 := Try.isAgg136
  z53 := Try.sizeOf136
  v53 := Try.zeroValue136
  t57 := Try.underlying140
  a57 := Try.isAgg140
  z57 := Try.sizeOf140
  v57 := Try.zeroValue140
  t63 := Try.underlying147
  a63 := Try.isAgg147
  z63 := Try.sizeOf147
  v63 := Try.zeroValue147
  t64 := Try.underlying148
  a64 := Try.isAgg148
  z64 := Try.sizeOf148
  v64 := Try.zeroValue148 }
end Go.Proofs

namespace Go.Proofs.Ytkkmikgeppkhiaa
open Go.ChangeShapes Go.WideShapes Go.ChangeAt Go.RowKit Go.Maps Go.WideMaps Go.Sort Go.Shelf
set_option linter.unusedVariables false
set_option linter.unusedSimpArgs false

theorem sorts32 (m : Nat) : AnyZ.SortsIn Try.prog Try.sorted32_ren Fence.wide m :=
  ⟨fun blk off cap ss W hH hblk hsz => callsIn_wide.2 (AnyM.slices_Sort_string Try.sort54 blk off cap ss W hH hblk hsz),
   fun p cap W => callsIn_wide.2 (AnyM.slices_Sort_string_none Try.sort54 p cap W)⟩
theorem keys_any (b : Nat) (W : World) : Calls Try.prog 33 #[.map (some b)] W fun e w' => e = .returned (.func (.func 55) #[] #[.pointer (some ⟨W.heap.size, 0, none⟩)]) ∧ w' = W.alloc (.cells #[.map (some b)] 61) :=
  callsIn_wide.1 (AnyZ.keys_in Try.keys33 Fence.wide 5 trivial rfl (some b) W)
def bts (x : List UInt8) : ByteArray := ⟨x.toArray⟩
theorem bts_l (x : List UInt8) : (bts x).toList = x := by rw [bts, ByteArray.toList_eq]
theorem keyL_bts (x : List UInt8) : keyL (bts x) = .string x := by simp [keyL, bts]
theorem enc_strs (L : List (List UInt8)) : L.map encStr = strs (L.map bts) := by
  unfold strs
  rw [List.map_map]
  rfl
theorem nms_of {D : DataW Two} {f : ByteArray → Option Two} (hd : Dat D f) (K : ∃ es, D = .map es ∧ es.Pairwise (fun p q => p.1 ≠ q.1) ∧ ∀ p ∈ es, WideAt.IsKeyLit p.1 ∧ ∃ x, p.1 = .string x) {ss : List (List UInt8)} (hp : ss.Perm (strKeys D)) :
    Nms (fun s => (f s).isSome = true) ((ss.mergeSort (fun x y => decide (x ≤ y))).map bts) := by
  obtain ⟨es, rfl, hpw, hk⟩ := K
  have hnd0 : (es.map fun p => strOf p.1).Nodup := by
    refine List.pairwise_map.2 (hpw.imp_of_mem fun {p q} hp' hq' hne e => hne ?_)
    obtain ⟨_, a, ha⟩ := hk p hp'
    obtain ⟨_, b, hb⟩ := hk q hq'
    rw [ha, hb] at e ⊢
    exact congrArg _ e
  have hp' : ss.Perm (es.map fun p => strOf p.1) := hp
  have hnd : ss.Nodup := hp'.nodup_iff.2 hnd0
  have hkeys : ∀ x, x ∈ ss ↔ has (DataW.map es) (.string x) = true := by
    intro x
    rw [hp'.mem_iff, has_eq, List.any_eq_true, List.mem_map]
    constructor
    · rintro ⟨p, hpm, e⟩
      refine ⟨p, hpm, ?_⟩
      obtain ⟨h1, y, hy⟩ := hk p hpm
      rw [hy] at e h1 ⊢
      have : y = x := e
      subst this
      exact WideAt.sameKey_self h1
    · rintro ⟨p, hpm, e⟩
      refine ⟨p, hpm, ?_⟩
      obtain ⟨h1, y, hy⟩ := hk p hpm
      by_cases hxy : y = x
      · rw [hy, hxy]; rfl
      · rw [hy, sameKey_ne (fun h => hxy (by injection h))] at e
        cases e
  have tr : ∀ a b c : List UInt8, decide (a ≤ b) = true → decide (b ≤ c) = true → decide (a ≤ c) = true := fun a b c h1 h2 => by simp only [decide_eq_true_eq] at *; exact List.le_trans h1 h2
  have tot : ∀ a b : List UInt8, (decide (a ≤ b) || decide (b ≤ a)) = true := fun a b => by simp only [Bool.or_eq_true, decide_eq_true_eq]; exact List.le_total a b
  have hs := List.pairwise_mergeSort tr tot ss
  have hm := List.mergeSort_perm ss (fun x y => decide (x ≤ y))
  have hnd2 : (ss.mergeSort fun x y => decide (x ≤ y)).Nodup := hm.nodup_iff.2 hnd
  constructor
  · refine List.pairwise_map.2 ((hs.and hnd2).imp ?_)
    rintro a b ⟨h1, h2⟩
    show Op.bytesLess (bts a).toList (bts b).toList = true
    rw [bts_l, bts_l, bl_lt, decide_eq_true_eq]
    rw [decide_eq_true_eq] at h1
    rcases bl_tri a b with h | h | h
    · rw [bl_lt, decide_eq_true_eq] at h; exact h
    · exact (h2 h).elim
    · rw [bl_lt, decide_eq_true_eq] at h; exact (h1 h).elim
  · intro s
    show _ ↔ (f s).isSome = true
    rw [List.mem_map, ← (hd s).1]
    constructor
    · rintro ⟨x, hx, rfl⟩
      rw [hm.mem_iff] at hx
      rw [keyL_bts]
      exact (hkeys x).1 hx
    · intro h
      refine ⟨s.data.toList, hm.mem_iff.2 ((hkeys _).2 h), ?_⟩
      simp [bts]
theorem sorted_any (b n : Nat) (f : ByteArray → Option Two) (w : World) (h : Mp w b n f) (hn : n ≤ 10000) :
    Calls Try.prog 32 #[.func (.func 55) #[] #[.pointer (some ⟨w.heap.size, 0, none⟩)]] (w.alloc (.cells #[.map (some b)] 61)) fun e w' => ∃ v ns, e = .returned v ∧ Nms (fun s => (f s).isSome = true) ns ∧ ns.length ≤ n ∧
      SRow w' (w.heap.size + 1) v ns ∧ Below (w.alloc (.cells #[.map (some b)] 61)).heap.size (w.alloc (.cells #[.map (some b)] 61)) w' := by
  obtain ⟨D, hown, hd⟩ := h
  have hbl := hown.lt
  have hsz : Maps.size D ≤ n := hown.size_le
  have hseq : SeqGives Fence.wide 2 Try.prog 55 #[.pointer (some ⟨w.heap.size, 0, none⟩)] encStr (fun ss => ss.Perm (strKeys D)) (Maps.size D) (w.alloc (.cells #[.map (some b)] 61)) :=
    AnyZ.keys_gives (ρ := Try.keys33_ren) { Try.keys33 with } Fence.wide _ trivial rfl (by omega) w.heap.size b n D _ (by simp) (by simp) (by
      obtain ⟨es, clock, hb, Ft, hs, hD⟩ := hown
      exact ⟨es, clock, (Below.heap_alloc _ _ b hbl).trans hb, Ft, hs, hD⟩)
  have H := AnyZ.sorted_in Try.sorted32 Fence.wide 5 trivial trivial trivial trivial rfl (by omega) (sorts32 _) (enters_of Try.func54 (by kernel_rfl) rfl) 55 #[.pointer (some ⟨w.heap.size, 0, none⟩)] trivial (enters_of Try.func55 (by kernel_rfl) rfl) _ _ (by unfold maxLen; omega) (by omega) _ hseq
  refine (callsIn_wide.1 H).mono ?_
  rintro e w' ⟨v, ss, rfl, hperm, hrow, _, hb⟩
  have hk : ∃ es, D = .map es ∧ es.Pairwise (fun p q => p.1 ≠ q.1) ∧ ∀ p ∈ es, WideAt.IsKeyLit p.1 ∧ ∃ x, p.1 = .string x := by
    obtain ⟨es, e1, h1, h2⟩ := hown.entries lawK
    obtain ⟨es2, e2, h3⟩ := World.ownsMap.keysOf hown
    have e3 : es = es2 := by rw [e1] at e2; injection e2
    subst e3
    refine ⟨es, e1, h1, fun p hp => ⟨h2 p hp, ?_⟩⟩
    obtain ⟨v, hv⟩ := h3 p hp
    obtain ⟨x, _, hx, _⟩ := Maps.keyOf_str Try.underlying9 hv
    exact ⟨x, hx⟩
  have hN := nms_of hd hk hperm
  have hll : ss.length ≤ n := by
    rw [hperm.length_eq]
    obtain ⟨es, rfl, _⟩ := hk
    have : (strKeys (DataW.map es)).length = Maps.size (DataW.map es) := by simp [strKeys, Maps.size]
    omega
  refine ⟨v, _, rfl, hN, by rw [List.length_map, List.length_mergeSort]; exact hll, ?_, hb⟩
  rw [enc_strs] at hrow
  unfold SRow
  rw [List.length_map, List.length_mergeSort]
  have : (w.alloc (.cells #[.map (some b)] 61)).heap.size = w.heap.size + 1 := by simp
  rw [← this]
  exact hrow
end Go.Proofs.Ytkkmikgeppkhiaa

namespace Go.Proofs.Ytkkmikgeppkhiaa
open Go.ChangeShapes Go.WideShapes Go.ChangeAt Go.RowKit Go.Maps Go.WideMaps
set_option linter.unusedVariables false
set_option linter.unusedSimpArgs false

theorem Lok.lst {w : World} {u : Option Addr} {p po n c : Nat} {fs : List Ft} (h : Lok w ⟨u, p, po, c, fs⟩) (hl : fs.length = n) (hf : Fine fs) : Lst w u p po n fs :=
  ⟨hl, by rw [← hl]; have := hf.len; omega, h.at_, hf.dif, fun f hm => (h.size f hm).1⟩
theorem fss2 (a b : Ls) : fss [a, b] = [a.fs, b.fs] := rfl
theorem ekd_range (p : Two) : -9223372036854775808 ≤ ekd p ∧ ekd p ≤ 9223372036854775807 := by
  unfold ekd
  split
  · omega
  · split <;> omega
set_option maxRecDepth 100000 in
set_option maxHeartbeats 8000000 in
theorem editsP_any (u1 : Option Addr) (p1 o1 n1 c1 : Nat) (B : List Ft) (u2 : Option Addr) (p2 o2 n2 c2 : Nat) (L : List Ft) (w : World) (hl1 : B.length = n1) (hl2 : L.length = n2) (h1 : Lok w ⟨u1, p1, o1, c1, B⟩) (h2 : Lok w ⟨u2, p2, o2, c2, L⟩) :
    Calls Try.prog 9 #[.slice u1 n1 c1, .slice u2 n2 c2] w (EdEnd B L w) := by
  obtain ⟨iE, hi, hx0, hx1, hx2⟩ := info_parts info54
  have HL1 := hide hl1
  have HL2 := hide hl2
  have H1 := hide h1
  have H2 := hide h2
  clear hl1 hl2 h1 h2
  have HB0 := hide (ba (Below.refl w.heap.size w) (.cells #[.slice u1 n1 c1, .slice u2 n2 c2] 27))
  have HLS : Hid (LsAt (w.alloc (.cells #[.slice u1 n1 c1, .slice u2 n2 c2] 27)) w.heap.size 0 [⟨u1, p1, o1, c1, B⟩, ⟨u2, p2, o2, c2, L⟩]) := hide ⟨by simp, fun i l hi => by
    match i, hi with
    | 0, hi => cases hi; show _ = some (Value.slice u1 B.length c1); rw [unhide HL1]; simp [go_sem]
    | 1, hi => cases hi; show _ = some (Value.slice u2 L.length c2); rw [unhide HL2]; simp [go_sem]⟩
  have HC := hide (codes_any w.heap.size 0 2 2 [⟨u1, p1, o1, c1, B⟩, ⟨u2, p2, o2, c2, L⟩] (w.alloc (.cells #[.slice u1 n1 c1, .slice u2 n2 c2] 27)) rfl (by omega) (by
      intro l hl
      simp only [List.mem_cons, List.not_mem_nil, or_false] at hl
      rcases hl with rfl | rfl
      · exact (unhide H1).bel (ba (Below.refl _ _) _)
      · exact (unhide H2).bel (ba (Below.refl _ _) _)) (unhide HLS))
  rw [fss2] at HC
  clear HLS
  go_enter Try.func9, Try.ntmps9
  go_wp2_with fail
  refine (unhide HC).mono ?_
  rintro e W1 ⟨⟨c, rfl, hvc⟩, hb⟩
  have HV := hide hvc
  have HB1 := hide (bc (unhide HB0) hb)
  clear hvc hb HC
  by_cases hc : c = 0
  rotate_left
  · have c0 : (c != 0) = true := by simpa using hc
    have HC0 := hide hc
    clear hc
    go_wp2_with fail
    refine bodyPost_ret (v := .tuple #[.slice none 0 0, .int .i64 c]) (by simp [results, Try.results9, go_sem]; done) rfl ?_
    exact edEnd_code (unhide HV) (unhide HC0) (own_nil _ _ _ _) (unhide HB1)
  subst hc
  have hF := (unhide HV).zero
  have hF1 := hF B (by simp)
  have hF2 := hF L (by simp)
  have HF1 := hide hF1
  have HF2 := hide hF2
  have hn1 : n1 ≤ 30 := by rw [← unhide HL1]; exact hF1.len
  have hn2 : n2 ≤ 30 := by rw [← unhide HL2]; exact hF2.len
  have HED := hide (edits_any u1 p1 o1 n1 c1 B u2 p2 o2 n2 c2 L W1 (((unhide H1).bel (unhide HB1)).lst (unhide HL1) hF1) (((unhide H2).bel (unhide HB1)).lst (unhide HL2) hF2))
  clear hF hF1 hF2
  go_wp2_with fail
  refine (unhide HED).mono ?_
  rintro e W2 ⟨rfl, hm, hb⟩
  have HM := hide hm
  have HB2 := hide (bc (unhide HB1) hb)
  have HKY := hide (keys_any W1.heap.size W2)
  have HSO := hide (sorted_any W1.heap.size (n1 + n2) _ W2 hm (by omega))
  have hmlt := hm.lt
  clear hm hb
  go_wp2_with fail
  refine (unhide HKY).mono ?_
  rintro e W3 ⟨rfl, rfl⟩
  go_wp2_with fail
  refine (unhide HSO).mono ?_
  rintro e W4 ⟨v, ns, rfl, hns, hnl, hs, hb4⟩
  have HN := hide hns
  have hb24 : Below W2.heap.size W2 W4 := bc (ba (Below.refl _ _) _) hb4
  have HB4 := hide (bc (unhide HB2) hb24)
  have HM4 := hide ((unhide HM).bel hb24)
  have HNB := hide (fun s (hs : s ∈ ns) => (by have this : (eds B L s).isSome = true := (hns.2 s).1 hs; rw [Option.isSome_iff_exists] at this; obtain ⟨p, hp⟩ := this; have h3 := eds_knd (B := B) (L := L) (fun f hf => (unhide HF1).nm0 hf) (fun f hf => (unhide HF2).nm0 hf) s; have h4 := h3.1.1 (by rw [hp]; rfl); have h5 := knd_mem h4; rw [List.mem_append] at h5; rcases h5 with h5 | h5 <;> obtain ⟨f, hf, rfl⟩ := List.mem_map.1 h5; exact ((unhide H1).size f hf).1; exact ((unhide H2).size f hf).1 : s.size ≤ maxLen))
  have hqe : ∃ q, ns.length = q ∧ q ≤ 1048576 := ⟨_, rfl, by omega⟩
  obtain ⟨q, hq, hq1⟩ := hqe
  obtain ⟨uS, cS, rfl, _⟩ := own_form hs
  have hSt := (SRow.stAt hs).2
  rw [hq]
  have HQ := hide hq
  have HST := hide hSt
  have HMX := hide (fun W (h : Mp W W1.heap.size (n1 + n2) (eds B L)) => h)
  clear hs hb4 hb24 hq hSt hns hnl HSO HKY HED
  go_wp2_with fail
  go_loopw [8, 25] (fun v s W => ∃ (i : Nat), s = .int .i64 (i : Int) ∧ i ≤ q ∧ W.ownsRow W4.heap.size 54 2 v i (flatG edc ((ns.take i).map fun s => (ekd ((eds B L s).getD p0), s))) ∧ Below W4.heap.size W4 W) (fun _ s _ => q - (intOf s).toNat)
  case atStart => exact ⟨0, rfl, by omega, own_nil _ _ _ _, Below.refl _ _⟩
  case round =>
    obtain ⟨i, rfl, hi1, hrow, hw4⟩ := hrel
    have HR := hide hrow
    have HW := hide (bc (unhide HB4) hw4)
    have HW4 := hide hw4
    obtain ⟨ug, cg, rfl, _⟩ := own_form hrow
    clear hrow hw4
    by_cases h : i < q
    · have i1 : (i : Int) < (q : Int) := by omega
      have i0 : (0 : Int) ≤ (i : Int) := Int.natCast_nonneg _
      have iz : decide ((i : Int) < (q : Int)) = true := decide_eq_true i1
      obtain ⟨s, hx⟩ := get_some (unhide HQ) h
      have hne : ns ≠ [] := by intro e; subst e; cases hx
      obtain ⟨g, o, rfl, hgl, hc⟩ := ((unhide HST).bel (unhide HW4)) hne
      have k0 := hc i s hx
      have hss := unhide HNB s (List.mem_of_getElem? hx)
      have HTK : Hid ((ns.take (i + 1)).map (fun s => (ekd ((eds B L s).getD p0), s)) = (ns.take i).map (fun s => (ekd ((eds B L s).getD p0), s)) ++ [(ekd ((eds B L s).getD p0), s)]) := hide (by rw [List.take_add_one, hx, Option.toList_some, List.map_append]; rfl)
      obtain ⟨P, hP⟩ := bl_ex ((eds B L s).getD p0)
      have hlk := ((unhide HM4).bel (unhide HW4)).get und61 s hss
      rw [hP.v] at hlk
      have HKD := hide (fun W => kind_any ((eds B L s).getD p0) W)
      rw [hP.v] at HKD
      clear hx hc hne hss hP
      go_wp2_with fail
      refine (unhide HKD _).mono ?_
      rintro e W5 ⟨rfl, hb5⟩
      have HW5 := hide (bc (unhide HW4) hb5)
      have HR5 := hide (own_bel (unhide HR) hb5)
      clear hb5 k0 hlk
      generalize ekd ((eds B L s).getD p0) = kd at *
      go_wp2_with (at_builtin; refine unhide ?_)
      refine hide ?_
      refine wpList_append_own _ rfl _ _ 24 rfl W4.heap.size 54 iE _ 2 24 Try.underlying24 hi hx0 hx1 hx2 rfl (by decide) _ i _ rfl ((unhide HR5).alloc _) _ 1 1 [.int .i64 kd, .string s] rfl rfl (by first | exact news_cells _ _ rfl | exact news_cells _ _ (by simp)) (by intro u hu; simp at hu; rcases hu with rfl | rfl <;> rfl) (by unfold maxLen; omega) (by omega) (Nat.le_trans (unhide HW5).size (by simp)) ?_
      intro v' w1 hown' hgrow _
      have R := hide (own_ed (Below.alloc (Below.refl W4.heap.size _) (unhide HW5).size _) (Nat.le_trans (unhide HW5).size (by simp)) (unhide HR5) hown' hgrow)
      clear hown' hgrow
      go_wp2_with fail
      go_roundw
      case rel => exact ⟨i + 1, by simp, h, by rw [unhide HTK]; exact (unhide R).1, (unhide HW5).trans (unhide R).2⟩
      case measure => simp only [intOf]; omega
    · have i1 : ¬ (i : Int) < (q : Int) := by omega
      have iz : decide ((i : Int) < (q : Int)) = false := decide_eq_false i1
      have HE : Hid (ns.take i = ns) := hide (List.take_of_length_le (by rw [unhide HQ]; omega))
      have HIQ : Hid (i = q) := hide (by omega)
      go_wp2_with fail
      refine bodyPost_ret (v := .tuple #[.slice ug i cg, .int .i64 0]) (by simp [results, Try.results9, go_sem]; done) rfl ?_
      have h1 := unhide HR
      rw [unhide HE] at h1
      refine ⟨⟨_, 0, _, rfl, ⟨unhide HV, by rw [if_pos rfl]; exact edl_p (fun f hf => (unhide HF1).nm0 hf) (fun f hf => (unhide HF2).nm0 hf) (unhide HN)⟩, ?_⟩, unhide HW⟩
      unfold ERow
      rw [List.length_map, unhide HQ, ← unhide HIQ]
      exact own_mono h1 (unhide HB4).size
end Go.Proofs.Ytkkmikgeppkhiaa

namespace Go.Proofs.Ytkkmikgeppkhiaa
open Go.ChangeShapes Go.WideShapes Go.ChangeAt Go.RowKit
set_option linter.unusedVariables false
set_option linter.unusedSimpArgs false

theorem edc_len (e : Int × ByteArray) : (edc e).length = 2 := rfl
theorem ERow.bel {w w' : World} {B : Nat} {v : Value} {es : List (Int × ByteArray)} (h : ERow w B v es) (hb : Below w.heap.size w w') : ERow w' B v es := own_bel h hb
theorem ERow.form {w : World} {B : Nat} {v : Value} {es : List (Int × ByteArray)} (h : ERow w B v es) : ∃ u c p, v = .slice u es.length c ∧ SlG edc 2 w u p 0 es := by
  obtain ⟨u, c, rfl, _, _, h9⟩ := own_form h
  by_cases h0 : es = []
  · subst h0
    exact ⟨u, c, 0, rfl, fun h => absurd rfl h⟩
  · obtain ⟨g, rfl, hB, hg, hc⟩ := h9 (by intro e; exact h0 (List.eq_nil_of_length_eq_zero e))
    exact ⟨_, c, g, rfl, fun _ => ⟨rfl, hg, fun i a ha j v hv => by rw [Nat.zero_add]; exact hc _ _ (flatG_at edc_len ha hv)⟩⟩
theorem ed_at {w : World} {u : Option Addr} {p po : Nat} {es : List (Int × ByteArray)} (h : SlG edc 2 w u p po es) {i : Nat} {k : Int} {s : ByteArray} (hi : es[i]? = some (k, s)) : u = some ⟨p, po, none⟩ ∧ w.cell? ⟨p, po + i * 2, none⟩ = some (.int .i64 k) ∧ w.cell? ⟨p, po + i * 2 + 1, none⟩ = some (.string s) := by
  obtain ⟨e, _, hc⟩ := h.at hi
  exact ⟨e, hc 0 _ rfl, hc 1 _ rfl⟩
theorem edE_one (k : Int) (s : ByteArray) (w : World) : Calls Try.prog 35 #[.agg #[.int .i64 k, .string s], .agg #[.int .i64 k, .string s]] w fun e w' => e = .returned (.bool true) ∧ Below w.heap.size w w' := by
  go_enter Try.func35, Try.ntmps35
  go_wp2
  go_ret
  exact ⟨rfl, ba (ba (Below.refl _ _) _) _⟩
set_option maxRecDepth 100000 in
set_option maxHeartbeats 2000000 in
theorem ed_same (u v : Option Addr) (p po q qo n cu cv : Nat) (es : List (Int × ByteArray)) (w : World) (hl : es.length = n) (hn : n ≤ 1048576) (hu : SlG edc 2 w u p po es) (hv : SlG edc 2 w v q qo es) :
    Calls Try.prog 10 #[.slice u n cu, .slice v n cv] w fun e w' => e = .returned (.bool true) ∧ Below w.heap.size w w' := by
  have HU := hide hu
  have HV := hide hv
  have HL := hide hl
  clear hu hv hl
  go_enter Try.func10, Try.ntmps10
  go_wp2
  go_loopw [5] (fun s W => ∃ i : Nat, s = .int .i64 (i : Int) ∧ i ≤ n ∧ Below w.heap.size w W) (fun s _ => n - (intOf s).toNat)
  case atStart => exact ⟨0, rfl, Nat.zero_le _, Below.refl _ _⟩
  case round =>
    obtain ⟨i, rfl, hi, hw⟩ := hrel
    have HW := hide hw
    clear hw
    by_cases h : i < n
    · have i1 : (i : Int) < (n : Int) := by omega
      have i0 : (0 : Int) ≤ (i : Int) := Int.natCast_nonneg _
      have iz : decide ((i : Int) < (n : Int)) = true := decide_eq_true i1
      obtain ⟨⟨k, s⟩, hx⟩ := get_some (unhide HL) h
      obtain ⟨rfl, k0, k1⟩ := ed_at ((unhide HU).bel (unhide HW)) hx
      obtain ⟨rfl, l0, l1⟩ := ed_at ((unhide HV).bel (unhide HW)) hx
      have kl := cell_lt k0
      have ll := cell_lt l0
      clear hx
      go_wp2_with fail
      go_region_held3 (fun wx => wx.cell? ⟨p, po + i * 2, none⟩ = some (.int .i64 k) ∧ wx.cell? ⟨p, po + i * 2 + 1, none⟩ = some (.string s) ∧ wx.cell? ⟨q, qo + i * 2, none⟩ = some (.int .i64 k) ∧ wx.cell? ⟨q, qo + i * 2 + 1, none⟩ = some (.string s))
        (simp (maxDischargeDepth := 12) [go_sem, le1, lt1, *])
        (first
        | (go_at_call 35; refine (edE_one _ _ _).mono ?_; rintro e w' ⟨rfl, hb⟩; have HB := hide hb; have ya0 := keep1 hb (b := p) (o := _) (v := .int .i64 k) k0; have ya1 := keep1 hb (b := p) (o := _) (v := .string s) k1; have yb0 := keep1 hb (b := q) (o := _) (v := .int .i64 k) l0; have yb1 := keep1 hb (b := q) (o := _) (v := .string s) l1; clear hb))
      all_goals
        go_wp2_with fail
        go_roundw
        case rel => exact ⟨i + 1, by simp, h, by repeat (first | exact unhide HW | refine bc ?_ (unhide HB) | refine Below.drew ?_)⟩
        case measure => simp only [intOf]; omega
    · have i1 : ¬ (i : Int) < (n : Int) := by omega
      have iz : decide ((i : Int) < (n : Int)) = false := decide_eq_false i1
      go_wp2_with fail
      go_ret
      exact ⟨rfl, unhide HW⟩
/-- the marked edits -/
def mkE (c m : Nat) : List (Int × ByteArray) := (List.range m).map fun i => (((c + 2 * i : Nat) : Int), mkT (c + 2 * i + 1))
theorem mkE_len (c m : Nat) : (mkE c m).length = m := by simp [mkE]
theorem mkE_succ (c m : Nat) : mkE c (m + 1) = mkE c m ++ [(((c + 2 * m : Nat) : Int), mkT (c + 2 * m + 1))] := by simp [mkE, List.range_succ]
theorem mkE_at (c m i : Nat) (h : i < m) : (mkE c m)[i]? = some (((c + 2 * i : Nat) : Int), mkT (c + 2 * i + 1)) := by simp [mkE, h]
theorem flatE_len (es : List (Int × ByteArray)) : (flatG edc es).length = es.length * 2 := flatG_len edc_len es
theorem over2 (A B : List Value) (x y a b : Value) (n : Nat) (h : A.length = n) : ((A ++ x :: y :: B).set n a).set (n + 1) b = A ++ [a, b] ++ B := by
  subst h
  rw [List.set_append, if_neg (by omega), Nat.sub_self, List.set_append, if_neg (by omega), show A.length + 1 - A.length = 1 by omega]
  simp
set_option maxRecDepth 100000 in
set_option maxHeartbeats 2000000 in
theorem ed_mark (u : Option Addr) (B n cu c : Nat) (es : List (Int × ByteArray)) (w : World) (hl : es.length = n) (hn : n ≤ 1048576) (c0 : 0 < c) (c1 : c ≤ 60000000) (hs : ERow w B (.slice u n cu) es) (hB : B ≤ w.heap.size) :
    Calls Try.prog 13 #[.slice u n cu, .int .i64 (c : Int)] w fun e w' => e = .returned (.int .i64 ((c : Int) + 2 * (n : Int))) ∧ ERow w' B (.slice u n cu) (mkE c n) ∧ Below B w w' := by
  unfold ERow at hs
  rw [hl] at hs
  by_cases hn0 : n = 0
  · subst hn0
    have hl0 : es = [] := List.eq_nil_of_length_eq_zero hl
    subst hl0
    have HS := hide hs
    clear hs hl
    go_enter Try.func13, Try.ntmps13
    go_wp2
    go_loopw [1, 5] (fun s t W => s = .int .i64 (c : Int) ∧ t = .int .i64 0 ∧ W = w) (fun _ s _ => 0)
    case atStart => exact ⟨rfl, rfl, rfl⟩
    case round =>
      obtain ⟨rfl, rfl, hw⟩ := hrel
      subst hw
      go_wp2
      go_ret
      exact ⟨by simp, unhide HS, Below.refl _ _⟩
  · obtain ⟨u9, c9, e9, _, _, h9⟩ := own_form hs
    injection e9 with a1 a2 a3
    subst a1
    subst a3
    obtain ⟨g, rfl, hg1, hg2, hc⟩ := h9 (by omega)
    have HS := hide hs
    have HL := hide hl
    clear hs h9 hc hl a2
    go_enter Try.func13, Try.ntmps13
    go_wp2
    go_loopw [1, 5] (fun s t W => ∃ i : Nat, s = .int .i64 ((c : Int) + 2 * (i : Int)) ∧ t = .int .i64 (i : Int) ∧ i ≤ n ∧ W.ownsRow B 54 2 (.slice (some ⟨g, 0, none⟩) n cu) n (flatG edc (mkE c i) ++ (flatG edc es).drop (i * 2)) ∧ Below B w W) (fun _ s _ => n - (intOf s).toNat)
    case atStart => exact ⟨0, by simp, rfl, Nat.zero_le _, by simpa [mkE, flatG] using unhide HS, Below.refl _ _⟩
    case round =>
      obtain ⟨i, rfl, rfl, hi, hown, hw⟩ := hrel
      have HO := hide hown
      have HW := hide hw
      clear hown hw
      by_cases h : i < n
      · have i1 : (i : Int) < (n : Int) := by omega
        have i0 : (0 : Int) ≤ (i : Int) := Int.natCast_nonneg _
        have iz : decide ((i : Int) < (n : Int)) = true := decide_eq_true i1
        have K0 := hide (fun W => mkText_any (c + 2 * i + 1) W (by omega) (by omega))
        rw [show (((c + 2 * i + 1 : Nat) : Int)) = (c : Int) + 2 * (i : Int) + 1 by omega] at K0
        have w1 : IntKind.i64.wrap ((c : Int) + 2 * (i : Int) + 1) = (c : Int) + 2 * (i : Int) + 1 := wrap_i (by omega) (by omega)
        have w2 : IntKind.i64.wrap ((c : Int) + 2 * (i : Int) + 1 + 1) = (c : Int) + 2 * (i : Int) + 1 + 1 := wrap_i (by omega) (by omega)
        obtain ⟨⟨ek, et⟩, hx⟩ := get_some (unhide HL) h
        have hdr : (flatG edc es).drop (i * 2) = .int .i64 ek :: .string et :: (flatG edc es).drop ((i + 1) * 2) := by
          have q0 : (flatG edc es)[i * 2]? = some (.int .i64 ek) := by have := flatG_at edc_len hx (j := 0) (v := .int .i64 ek) rfl; simpa using this
          have q1 : (flatG edc es)[i * 2 + 1]? = some (.string et) := flatG_at edc_len hx (j := 1) (v := .string et) rfl
          obtain ⟨l0, e0⟩ := List.getElem?_eq_some_iff.1 q0
          obtain ⟨l1, e1⟩ := List.getElem?_eq_some_iff.1 q1
          rw [List.drop_eq_getElem_cons l0, List.drop_eq_getElem_cons l1, e0, e1, show (i + 1) * 2 = i * 2 + 1 + 1 by omega]
        have ho := unhide HO
        rw [hdr] at ho
        have hlm : (flatG edc (mkE c i)).length = i * 2 := by rw [flatE_len, mkE_len]
        have e0 := own_cells ho (j := i * 2) (x := .int .i64 ek) (by rw [List.getElem?_append_right (by omega), hlm, Nat.sub_self]; rfl)
        have fz : ∀ q, wr.frozen? ⟨g, q, none⟩ = false := own_frz ho
        have hst := own_set ho (i * 2) (.int .i64 ((c : Int) + 2 * (i : Int)))
        have HO1 := hide hst
        have HW1 := hide ((unhide HW).trans (Below.refl B _) : Below B w wr)
        have hgl : g < wr.heap.size := cell_lt e0
        have HWS : Hid (Below B w (wr.setCell ⟨g, i * 2, none⟩ (.int .i64 ((c : Int) + 2 * (i : Int))))) := hide (Below.setCell (unhide HW) hg1 _)
        clear hst hx hdr ho
        go_wp2_with fail
        refine (unhide K0 _).mono ?_
        rintro e W1 ⟨rfl, hb1⟩
        have ho1 := own_bel (unhide HO1) hb1
        have HW2 := hide ((unhide HWS).trans (hb1.mono (Nat.le_trans hB (by have := (unhide HWS).size; exact this))))
        have e1 := own_cells ho1 (j := i * 2 + 1) (x := .string et) (by rw [List.getElem?_set_ne (by omega), List.getElem?_append_right (by omega), hlm, show i * 2 + 1 - i * 2 = 1 by omega]; rfl)
        have fz1 : ∀ q, W1.frozen? ⟨g, q, none⟩ = false := own_frz ho1
        have hst2 := own_set ho1 (i * 2 + 1) (.string (mkT (c + 2 * i + 1)))
        rw [over2 _ _ _ _ _ _ (i * 2) hlm] at hst2
        have HST := hide hst2
        clear hb1 ho1 hst2 fz e0 hlm
        generalize hmk : mkT (c + 2 * i + 1) = s0 at *
        have HMK := hide hmk
        clear hmk
        go_wp2_with fail
        go_roundw
        case rel =>
          refine ⟨i + 1, by simp only [Value.int.injEq, true_and]; omega, by simp, h, ?_, Below.setCell (unhide HW2) hg1 _⟩
          rw [mkE_succ, unhide HMK, flatG_append]
          have e : flatG edc [(((c + 2 * i : Nat) : Int), s0)] = [.int .i64 ((c : Int) + 2 * (i : Int)), .string s0] := by simp [flatG, edc]
          rw [e]
          exact unhide HST
        case measure => simp only [intOf]; omega
      · have i1 : ¬ (i : Int) < (n : Int) := by omega
        have iz : decide ((i : Int) < (n : Int)) = false := decide_eq_false i1
        have en : i = n := by omega
        subst en
        have h9 := unhide HO
        rw [List.drop_eq_nil_of_le (by rw [flatE_len, unhide HL]; exact Nat.le_refl _), List.append_nil] at h9
        have HO9 := hide h9
        clear h9
        go_wp2_with fail
        go_ret
        refine ⟨rfl, ?_, unhide HW⟩
        unfold ERow
        rw [mkE_len]
        exact unhide HO9
set_option maxRecDepth 100000 in
set_option maxHeartbeats 2000000 in
theorem ed_held (u : Option Addr) (p po n cu c : Nat) (w : World) (hn : n ≤ 1048576) (c0 : 0 < c) (c1 : c ≤ 60000000) (hu : SlG edc 2 w u p po (mkE c n)) :
    Calls Try.prog 14 #[.slice u n cu, .int .i64 (c : Int)] w fun e w' => e = .returned (.int .i64 ((c : Int) + 2 * (n : Int))) ∧ Below w.heap.size w w' := by
  have HU := hide hu
  clear hu
  go_enter Try.func14, Try.ntmps14
  go_wp2
  go_loopw [1, 5] (fun s t W => ∃ i : Nat, s = .int .i64 ((c : Int) + 2 * (i : Int)) ∧ t = .int .i64 (i : Int) ∧ i ≤ n ∧ Below w.heap.size w W) (fun _ s _ => n - (intOf s).toNat)
  case atStart => exact ⟨0, by simp, rfl, Nat.zero_le _, Below.refl _ _⟩
  case round =>
    obtain ⟨i, rfl, rfl, hi, hw⟩ := hrel
    have HW := hide hw
    by_cases h : i < n
    · have i1 : (i : Int) < (n : Int) := by omega
      have i0 : (0 : Int) ≤ (i : Int) := Int.natCast_nonneg _
      have iz : decide ((i : Int) < (n : Int)) = true := decide_eq_true i1
      have hx := mkE_at c n i h
      rw [show (((c + 2 * i : Nat) : Int)) = (c : Int) + 2 * (i : Int) by omega] at hx
      obtain ⟨rfl, k0, k1⟩ := ed_at ((unhide HU).bel hw) hx
      have kl := cell_lt k1
      have K0 := hide (fun W => mkText_any (c + 2 * i + 1) W (by omega) (by omega))
      rw [show (((c + 2 * i + 1 : Nat) : Int)) = (c : Int) + 2 * (i : Int) + 1 by omega] at K0
      have w1 : IntKind.i64.wrap ((c : Int) + 2 * (i : Int) + 1) = (c : Int) + 2 * (i : Int) + 1 := wrap_i (by omega) (by omega)
      have w2 : IntKind.i64.wrap ((c : Int) + 2 * (i : Int) + 1 + 1) = (c : Int) + 2 * (i : Int) + 1 + 1 := wrap_i (by omega) (by omega)
      clear hx hw
      generalize mkT (c + 2 * i + 1) = s0 at *
      go_wp2_with fail
      go_region_held3 (fun wx => wx.cell? ⟨p, po + i * 2 + 1, none⟩ = some (.string s0)) (simp (maxDischargeDepth := 12) [go_sem, le1, lt1, *])
        (first
        | (go_at_call 37; refine (unhide K0 _).mono ?_; rintro e w' ⟨rfl, hb⟩; have HB := hide hb; have ya := keep1 hb (b := p) (o := po + i * 2 + 1) (v := .string s0) k1; clear hb))
      all_goals
        go_wp2_with fail
        go_roundw
        case rel => exact ⟨i + 1, by simp only [Value.int.injEq, true_and]; omega, by simp, h, by repeat (first | exact unhide HW | refine bc ?_ (unhide HB) | refine Below.drew ?_)⟩
        case measure => simp only [intOf]; omega
    · have i1 : ¬ (i : Int) < (n : Int) := by omega
      have iz : decide ((i : Int) < (n : Int)) = false := decide_eq_false i1
      have en : i = n := by omega
      subst en
      clear hw
      go_wp2_with fail
      go_ret
      exact ⟨rfl, unhide HW⟩
end Go.Proofs.Ytkkmikgeppkhiaa

namespace Go.Proofs.Ytkkmikgeppkhiaa
open Go.ChangeShapes Go.WideShapes Go.ChangeAt Go.RowKit Go.Joins
set_option linter.unusedVariables false
set_option linter.unusedSimpArgs false

theorem EdAns.len {B L : List Ft} {es : List (Int × ByteArray)} {c : Int} (h : EdAns B L es c) : es.length ≤ 10000 := by
  by_cases hc : c = 0
  · subst hc
    have hf := h.1.zero
    have h1 := (hf B (by simp)).len
    have h2 := (hf L (by simp)).len
    have h3 := h.2
    rw [if_pos rfl] at h3
    have h4 := h3.uniq (edl_of (srt_nms (B.map Ft.nm ++ L.map Ft.nm)))
    rw [h4]
    have h5 := foldl_ins_len (B.map Ft.nm ++ L.map Ft.nm) []
    have h6 := List.length_filterMap_le (edF B L) (srt (B.map Ft.nm ++ L.map Ft.nm))
    unfold srt at h6 ⊢
    simp only [List.length_nil, List.length_append, List.length_map] at h5
    omega
  · have h3 := h.2
    rw [if_neg hc] at h3
    rw [h3]
    simp
theorem ERow.mw {w w' : World} {B g : Nat} {v : Value} {es : List (Int × ByteArray)} (h : ERow w B v es) (hm : Mw g w w') (hg : g < B) : ERow w' B v es :=
  own_kept h (fun k hk => by have := own_ge h k hk; exact hm.block k this.2 (by omega))
theorem vb.mw' {w w' : World} {p g t : Nat} {L : List Value} (h : vb w p t L) (hm : Mw g w w') (hg : p ≠ g) : vb w' p t L := (hm.block p h.lt hg).trans h
set_option maxRecDepth 100000 in
set_option maxHeartbeats 8000000 in
theorem fnExactEdits_walk (u1 : Option Addr) (n1 cap1 p1 po1 : Nat) (B : List Ft) (u2 : Option Addr) (n2 cap2 p2 po2 : Nat) (L : List Ft) (w : World) (hn1 : n1 ≤ 9223372036854775807) (hl1 : B.length = n1) (hr1 : (∀ f ∈ B, f.nm.size ≤ maxLen ∧ f.on.size ≤ maxLen ∧ f.ov.size ≤ maxLen) ∧ SlG ftc 15 w u1 p1 po1 B)
    (hn2 : n2 ≤ 9223372036854775807) (hl2 : L.length = n2) (hr2 : (∀ f ∈ L, f.nm.size ≤ maxLen ∧ f.on.size ≤ maxLen ∧ f.ov.size ≤ maxLen) ∧ SlG ftc 15 w u2 p2 po2 L) :
    Calls Try.prog 3 #[.slice u1 n1 cap1, .slice u2 n2 cap2] w fun e w' => e = .returned (.bool true) ∧ Below w.heap.size w w' := by
  obtain ⟨hs1, hu1⟩ := hr1
  obtain ⟨hs2, hu2⟩ := hr2
  have HSZ1 := hide (ft_sz u1 p1 po1 n1 cap1 B w hl1 hn1 hs1 hu1)
  have HSZ2 := hide (fun r X (h0 : 0 ≤ r) (h1 : r ≤ 1048576) (hX : Below w.heap.size w X) => ft_szq r h0 h1 u2 p2 po2 n2 cap2 L X hl2 hn2 hs2 (hu2.bel hX))
  have HT1 := hide (fun (hb : n1 ≤ 1048576) X (hX : Below w.heap.size w X) => ft_to u1 p1 po1 n1 cap1 B X hl1 hb (hu1.bel hX))
  have HT2 := hide (fun (hb : n2 ≤ 1048576) X (hX : Below w.heap.size w X) => ft_to u2 p2 po2 n2 cap2 L X hl2 hb (hu2.bel hX))
  have HM := hide (fun (hb1 : n1 ≤ 1048576) (hb2 : n2 ≤ 1048576) g h X (hX : vb X g 57 (flatG ftc B)) (hY : vb X h 57 (flatG ftc L)) => editsM_any (some ⟨g, 0, none⟩) g 0 n1 n1 B (some ⟨h, 0, none⟩) h 0 n2 n2 L X hl1 hl2 ⟨by rw [hl1]; exact hb1, Nat.le_of_eq hl1, hX.slG ftc_len, hs1⟩ ⟨by rw [hl2]; exact hb2, Nat.le_of_eq hl2, hY.slG ftc_len, hs2⟩)
  have HP := hide (fun (hb1 : n1 ≤ 1048576) (hb2 : n2 ≤ 1048576) g h X (hX : vb X g 57 (flatG ftc B)) (hY : vb X h 57 (flatG ftc L)) => editsP_any (some ⟨g, 0, none⟩) g 0 n1 n1 B (some ⟨h, 0, none⟩) h 0 n2 n2 L X hl1 hl2 ⟨by rw [hl1]; exact hb1, Nat.le_of_eq hl1, hX.slG ftc_len, hs1⟩ ⟨by rw [hl2]; exact hb2, Nat.le_of_eq hl2, hY.slG ftc_len, hs2⟩)
  have HE1 := hide (fun (hb : n1 ≤ 1048576) g g' X (hX : vb X g 57 (flatG ftc B)) (hY : vb X g' 57 (flatG ftc B)) => ft_same (some ⟨g, 0, none⟩) (some ⟨g', 0, none⟩) g 0 g' 0 n1 n1 n1 B X hl1 hb (hX.slG ftc_len) (hY.slG ftc_len))
  have HE2 := hide (fun (hb : n2 ≤ 1048576) g g' X (hX : vb X g 57 (flatG ftc L)) (hY : vb X g' 57 (flatG ftc L)) => ft_same (some ⟨g, 0, none⟩) (some ⟨g', 0, none⟩) g 0 g' 0 n2 n2 n2 L X hl2 hb (hX.slG ftc_len) (hY.slG ftc_len))
  have HFL1 : Hid ((flatG ftc B).length = n1 * 15) := hide (by rw [flatG_len ftc_len, hl1])
  have HFL2 : Hid ((flatG ftc L).length = n2 * 15) := hide (by rw [flatG_len ftc_len, hl2])
  clear hu1 hs1 hl1 hu2 hs2 hl2
  go_enter Try.func3, Try.ntmps3
  go_wp2_with fail
  refine (unhide HSZ1).mono ?_
  rintro e W0 ⟨⟨r, rfl, hr⟩, hb0⟩
  have HB0 := hide hb0
  clear hb0 HSZ1
  by_cases hz : r < 0
  · have t : decide (r < 0) = true := decide_eq_true hz
    clear hr
    go_wp2_with fail
    go_ret
    exact ⟨rfl, unhide HB0⟩
  have t : decide (r < 0) = false := decide_eq_false hz
  obtain ⟨hb1, hrl⟩ := hr (by omega)
  have hr0 : 0 ≤ r := by omega
  clear hr
  go_wp2_with fail
  refine (unhide HSZ2 r _ hr0 hrl (unhide HB0)).mono ?_
  rintro e W00 ⟨⟨r2, rfl, hr⟩, hb0⟩
  have HB00 := hide (bc (unhide HB0) hb0)
  clear hb0 HSZ2 HB0 t hz hrl hr0
  by_cases hz : r2 < 0
  · have t : decide (r2 < 0) = true := decide_eq_true hz
    clear hr
    go_wp2_with fail
    go_ret
    exact ⟨rfl, unhide HB00⟩
  have t : decide (r2 < 0) = false := decide_eq_false hz
  have hb2 : n2 ≤ 1048576 := (hr (by omega)).1
  have HT1 := hide (unhide HT1 hb1)
  have HT2 := hide (unhide HT2 hb2)
  have HM := hide (unhide HM hb1 hb2)
  have HP := hide (unhide HP hb1 hb2)
  have HE1 := hide (unhide HE1 hb1)
  have HE2 := hide (unhide HE2 hb2)
  clear hr
  go_wp2_with fail
  refine (unhide HT1 _ (unhide HB00)).mono ?_
  rintro e W1 ⟨⟨g1, rfl, hg1, hk⟩, hb⟩
  have K1 := hide (bc (unhide HB00) hb)
  have K2 := hide (hk)
  clear hb hk hg1
  go_wp2_with fail
  refine (unhide HT2 _ (unhide K1)).mono ?_
  rintro e W2 ⟨⟨g2, rfl, hg2, hk⟩, hb⟩
  have K3 := hide (bc (unhide K1) hb)
  have K4 := hide ((unhide K2).bel hb)
  have K5 := hide (hk)
  clear hb hk hg2
  go_wp2_with fail
  refine (unhide HM _ _ _ (unhide K4) (unhide K5)).mono ?_
  rintro e W3 ⟨⟨v1, c, es, rfl, hans, hrow⟩, hb⟩
  have K6 := hide (bc (unhide K3) hb)
  have hlen := hans.len
  have HPX : Hid (∀ g h X, vb X g 57 (flatG ftc B) → vb X h 57 (flatG ftc L) → Calls Try.prog 9 #[.slice (some ⟨g, 0, none⟩) n1 n1, .slice (some ⟨h, 0, none⟩) n2 n2] X fun e w' => (∃ a k, e = .returned (.tuple #[.slice a es.length k, .int .i64 c]) ∧ ERow w' X.heap.size (.slice a es.length k) es) ∧ Below X.heap.size X w') := hide (fun g h X hX hY => (unhide HP g h X hX hY).mono (by
    rintro e w' ⟨⟨v, c', es', rfl, hans', hr'⟩, hb'⟩
    obtain ⟨rfl, rfl⟩ := hans'.uniq hans
    obtain ⟨a, k, p, rfl, _⟩ := hr'.form
    exact ⟨⟨a, k, rfl, hr'⟩, hb'⟩))
  obtain ⟨aw, kw, pw, rfl, hsl⟩ := hrow.form
  have HMB : Hid (∀ W, Below W3.heap.size W3 W → SlG edc 2 W aw pw 0 es) := hide (fun W hW => hsl.bel hW)
  have HSB := hide (fun (a b : Option Addr) (q1 q2 j1 j2 : Nat) (W : World) (ha : SlG edc 2 W a q1 0 es) (hb' : SlG edc 2 W b q2 0 es) => ed_same a b q1 0 q2 0 es.length j1 j2 es W rfl (by omega) ha hb')
  have HMK := hide (fun (a : Option Addr) (k BB : Nat) (W : World) (h : ERow W BB (.slice a es.length k) es) (hB : BB ≤ W.heap.size) => ed_mark a BB es.length k 1 es W rfl (by omega) (by omega) (by omega) h hB)
  have HFM := hide (fun (a : Option Addr) (k BB : Nat) (W : World) (h : ERow W BB (.slice a es.length k) es) => h.form)
  obtain ⟨N, hN⟩ : ∃ N, es.length = N := ⟨_, rfl⟩
  rw [hN] at HPX HSB HMK HFM hlen ⊢
  have cc : (c != c) = false := by simp
  have n0 : (0 : Int) ≤ (N : Int) := Int.natCast_nonneg _
  clear hans hrow hsl hN HP HM hb
  have KD : Hid (Below W3.heap.size W3 W3) := hide (Below.refl _ _)
  go_wp2_with fail
  refine (unhide HT1 _ (unhide K6)).mono ?_
  rintro e W4 ⟨⟨g4, rfl, hg4, hk⟩, hb⟩
  have K7 := hide (bc (unhide K6) hb)
  have K8 := hide ((unhide KD).trans (hb.mono (unhide KD).size))
  have K9 := hide (hk)
  have HG4 : Hid (W3.heap.size ≤ g4 ∧ g4 < W4.heap.size) := hide ⟨hg4, hk.lt⟩
  have HS4 := hide hb.size
  clear hb hk hg4
  go_wp2_with fail
  refine (unhide HT2 _ (unhide K7)).mono ?_
  rintro e W5 ⟨⟨g5, rfl, hg5, hk⟩, hb⟩
  have K10 := hide (bc (unhide K7) hb)
  have K11 := hide ((unhide K8).trans (hb.mono (unhide K8).size))
  have K12 := hide ((unhide K9).bel hb)
  have K13 := hide (hk)
  have HG5 : Hid (W4.heap.size ≤ g5 ∧ g5 < W5.heap.size) := hide ⟨hg5, hk.lt⟩
  have HS5 := hide hb.size
  clear hb hk hg5
  have KZ : Hid (Below W5.heap.size W5 W5) := hide (Below.refl _ _)
  have HS0 := hide (unhide K10).size
  have HS3 : Hid (w.heap.size ≤ W3.heap.size) := hide (unhide K6).size
  go_wp2_with fail
  refine (unhide HPX _ _ _ (unhide K12) (unhide K13)).mono ?_
  rintro e W6 ⟨⟨a6, k6, rfl, hr6⟩, hb⟩
  have K14 := hide (bc (unhide K10) hb)
  have K15 := hide ((unhide K11).trans (hb.mono (unhide K11).size))
  have K16 := hide ((unhide K12).bel hb)
  have K17 := hide ((unhide K13).bel hb)
  have K18 := hide ((unhide KZ).trans (hb.mono (unhide KZ).size))
  have K19 := hide (hr6)
  clear hb hr6
  obtain ⟨_, _, q6, e6, hq6⟩ := unhide HFM _ _ _ _ (unhide K19)
  injection e6 with e61 e62 e63
  subst e61
  have HQ6 := hide hq6
  clear hq6 e62 e63
  go_wp2_with fail
  refine (unhide HSB a6 aw _ _ k6 kw _ (unhide HQ6) (unhide HMB _ (unhide K15))).mono ?_
  rintro e W7 ⟨rfl, hb⟩
  have K20 := hide (bc (unhide K14) hb)
  have K21 := hide ((unhide K15).trans (hb.mono (unhide K15).size))
  have K22 := hide ((unhide K16).bel hb)
  have K23 := hide ((unhide K17).bel hb)
  have K24 := hide ((unhide K18).trans (hb.mono (unhide K18).size))
  have K25 := hide ((unhide K19).bel hb)
  clear hb HQ6
  go_wp2_with fail
  refine (unhide HT1 _ (unhide K20)).mono ?_
  rintro e W8 ⟨⟨g8, rfl, hg8, hk⟩, hb⟩
  have K26 := hide (bc (unhide K20) hb)
  have K27 := hide ((unhide K21).trans (hb.mono (unhide K21).size))
  have K28 := hide ((unhide K22).bel hb)
  have K29 := hide ((unhide K23).bel hb)
  have K30 := hide ((unhide K24).trans (hb.mono (unhide K24).size))
  have K31 := hide ((unhide K25).bel hb)
  have K32 := hide (hk)
  clear hb hk hg8
  go_wp2_with fail
  refine (unhide HE1 _ _ _ (unhide K28) (unhide K32)).mono ?_
  rintro e W9 ⟨rfl, hb⟩
  have K33 := hide (bc (unhide K26) hb)
  have K34 := hide ((unhide K27).trans (hb.mono (unhide K27).size))
  have K35 := hide ((unhide K28).bel hb)
  have K36 := hide ((unhide K29).bel hb)
  have K37 := hide ((unhide K30).trans (hb.mono (unhide K30).size))
  have K38 := hide ((unhide K31).bel hb)
  clear hb
  go_wp2_with fail
  refine (unhide HT2 _ (unhide K33)).mono ?_
  rintro e WA ⟨⟨gA, rfl, hgA, hk⟩, hb⟩
  have K39 := hide (bc (unhide K33) hb)
  have K40 := hide ((unhide K34).trans (hb.mono (unhide K34).size))
  have K41 := hide ((unhide K35).bel hb)
  have K42 := hide ((unhide K36).bel hb)
  have K43 := hide ((unhide K37).trans (hb.mono (unhide K37).size))
  have K44 := hide ((unhide K38).bel hb)
  have K45 := hide (hk)
  clear hb hk hgA
  go_wp2_with fail
  refine (unhide HE2 _ _ _ (unhide K42) (unhide K45)).mono ?_
  rintro e WB ⟨rfl, hb⟩
  have K46 := hide (bc (unhide K39) hb)
  have K47 := hide ((unhide K40).trans (hb.mono (unhide K40).size))
  have K48 := hide ((unhide K41).bel hb)
  have K49 := hide ((unhide K42).bel hb)
  have K50 := hide ((unhide K43).trans (hb.mono (unhide K43).size))
  have K51 := hide ((unhide K44).bel hb)
  clear hb
  go_wp2_with fail
  refine (ft_mark (some ⟨g4, 0, none⟩) g4 n1 n1 1 (flatG ftc B) _ (unhide HFL1) hb1 (by omega) (by omega) rfl (unhide K48)).mono ?_
  rintro e WC ⟨he, hmw⟩
  obtain ⟨k1, hk1⟩ : ∃ k1 : Nat, (k1 : Int) = ((1 : Nat) : Int) + 15 * (n1 : Int) := ⟨1 + 15 * n1, by omega⟩
  obtain rfl : e = .returned (.int .i64 (k1 : Int)) := he.trans (ret_int hk1.symm)
  clear he
  obtain ⟨z1, z2⟩ := unhide HG4
  obtain ⟨z3, z4⟩ := unhide HG5
  have z5 := unhide HS4
  have z6 := unhide HS5
  have z7 := unhide HS3
  have K52 := hide ((unhide K46).trans (hmw.below (by omega) (unhide K46).size))
  have K53 := hide ((unhide K47).trans (hmw.below (by omega) (unhide K47).size))
  have K54 := hide (Nat.le_trans (unhide K50).size hmw.size)
  have K55 := hide ((unhide K49).mw' hmw (by omega))
  have K56 := hide ((unhide K51).mw hmw (by omega))
  clear hmw z1 z2 z3 z4 z5 z6 z7
  have hk1b : k1 ≤ 15728641 := by omega
  have hk1c : 0 < k1 := by omega
  clear hk1
  go_wp2_with fail
  refine (ft_mark (some ⟨g5, 0, none⟩) g5 n2 n2 k1 (flatG ftc L) _ (unhide HFL2) hb2 (by omega) (by omega) rfl (unhide K55)).mono ?_
  rintro e WD ⟨he, hmw⟩
  obtain ⟨k2, hk2⟩ : ∃ k2 : Int, k2 = (k1 : Int) + 15 * (n2 : Int) := ⟨_, rfl⟩
  obtain rfl : e = .returned (.int .i64 k2) := he.trans (ret_int hk2.symm)
  clear he
  obtain ⟨z1, z2⟩ := unhide HG4
  obtain ⟨z3, z4⟩ := unhide HG5
  have z5 := unhide HS4
  have z6 := unhide HS5
  have z7 := unhide HS3
  have K57 := hide ((unhide K52).trans (hmw.below (by omega) (unhide K52).size))
  have K58 := hide ((unhide K53).trans (hmw.below (by omega) (unhide K53).size))
  have ZB : Hid (W5.heap.size ≤ WD.heap.size) := hide (Nat.le_trans (unhide K54) hmw.size)
  have K59 := hide ((unhide K56).mw hmw (by omega))
  clear hmw z1 z2 z3 z4 z5 z6 z7
  have t2 : decide (k2 < 0) = false := decide_eq_false (by omega)
  have t3 : ¬ k2 < 0 := by omega
  clear hk2 hk1b hk1c
  obtain ⟨_, _, q6, e6, hq6⟩ := unhide HFM _ _ _ _ (unhide K59)
  injection e6 with e61 e62 e63
  subst e61
  have HQ6 := hide hq6
  clear hq6 e62 e63
  go_wp2_with fail
  refine (unhide HSB a6 aw _ _ k6 kw _ (unhide HQ6) (unhide HMB _ (unhide K58))).mono ?_
  rintro e WE ⟨rfl, hb⟩
  have ZE := hide (Nat.le_trans (unhide ZB) hb.size)
  have K60 := hide (bc (unhide K57) hb)
  have K61 := hide ((unhide K58).trans (hb.mono (unhide K58).size))
  have K62 := hide ((unhide K59).bel hb)
  clear hb HQ6
  go_wp2_with fail
  refine (unhide HMK a6 k6 W5.heap.size _ (unhide K62) (unhide ZE)).mono ?_
  rintro e WF ⟨rfl, hrF, hbF⟩
  obtain ⟨z1, z2⟩ := unhide HG4
  obtain ⟨z3, z4⟩ := unhide HG5
  have z5 := unhide HS4
  have z6 := unhide HS5
  have z7 := unhide HS3
  have K63 := hide ((unhide K60).trans (hbF.mono (by omega)))
  have K64 := hide ((unhide K61).trans (hbF.mono (by omega)))
  have K65 := hide (hrF)
  clear hbF hrF z1 z2 z3 z4 z5 z6 z7
  have mk1 : decide ((1 : Int) + 2 * (N : Int) < 0) = false := decide_eq_false (by omega)
  have mk2 : ¬ ((1 : Int) + 2 * (N : Int) < 0) := by omega
  have mk3 : ((1 : Int) + 2 * (N : Int) != 1 + 2 * (N : Int)) = false := by simp
  obtain ⟨_, _, q6, e6, hq6⟩ := (unhide K65).form
  rw [mkE_len] at e6
  injection e6 with e61 e62 e63
  subst e61
  have HQ6 := hide hq6
  clear hq6 e62 e63
  go_wp2_with fail
  refine (ed_held a6 q6 0 N k6 1 _ (by omega) (by omega) (by omega) (unhide HQ6)).mono ?_
  rintro e WG ⟨rfl, hb⟩
  have K66 := hide (bc (unhide K63) hb)
  have K67 := hide ((unhide K64).trans (hb.mono (unhide K64).size))
  have K68 := hide ((unhide K65).bel hb)
  clear hb HQ6
  go_wp2_with fail
  refine (unhide HT1 _ (unhide K66)).mono ?_
  rintro e WH ⟨⟨gH, rfl, hgH, hk⟩, hb⟩
  have K69 := hide (bc (unhide K66) hb)
  have K70 := hide ((unhide K67).trans (hb.mono (unhide K67).size))
  have K71 := hide ((unhide K68).bel hb)
  have K72 := hide (hk)
  clear hb hk hgH
  go_wp2_with fail
  refine (unhide HT2 _ (unhide K69)).mono ?_
  rintro e WI ⟨⟨gI, rfl, hgI, hk⟩, hb⟩
  have K73 := hide (bc (unhide K69) hb)
  have K74 := hide ((unhide K70).trans (hb.mono (unhide K70).size))
  have K75 := hide ((unhide K71).bel hb)
  have K76 := hide ((unhide K72).bel hb)
  have K77 := hide (hk)
  clear hb hk hgI
  go_wp2_with fail
  refine (unhide HPX _ _ _ (unhide K76) (unhide K77)).mono ?_
  rintro e WJ ⟨⟨aj, kj, rfl, hrj⟩, hb⟩
  have K78 := hide (bc (unhide K73) hb)
  have K79 := hide ((unhide K74).trans (hb.mono (unhide K74).size))
  have K80 := hide ((unhide K75).bel hb)
  clear hb
  obtain ⟨_, _, qj, ej, hqj⟩ := unhide HFM _ _ _ _ hrj
  injection ej with ej1 ej2 ej3
  subst ej1
  have HQJ := hide hqj
  clear hqj ej2 ej3 hrj
  go_wp2_with fail
  refine (unhide HSB aj aw _ _ kj kw _ (unhide HQJ) (unhide HMB _ (unhide K79))).mono ?_
  rintro e WK ⟨rfl, hb⟩
  have K81 := hide (bc (unhide K78) hb)
  have K82 := hide ((unhide K79).trans (hb.mono (unhide K79).size))
  have K83 := hide ((unhide K80).bel hb)
  clear hb HQJ
  obtain ⟨_, _, q6, e6, hq6⟩ := (unhide K83).form
  rw [mkE_len] at e6
  injection e6 with e61 e62 e63
  subst e61
  have HQ6 := hide hq6
  clear hq6 e62 e63
  go_wp2_with fail
  refine (ed_held a6 q6 0 N k6 1 _ (by omega) (by omega) (by omega) (unhide HQ6)).mono ?_
  rintro e WL ⟨rfl, hb⟩
  have K84 := hide (bc (unhide K81) hb)
  have K85 := hide ((unhide K82).trans (hb.mono (unhide K82).size))
  have K86 := hide ((unhide K83).bel hb)
  clear hb HQ6
  go_wp2_with fail
  go_ret
  exact ⟨rfl, (unhide K84)⟩
theorem fnExactEdits_own : ownKnob Try.prog.godebug = none := by kernel_rfl
theorem fnExactEdits_laidOut : laidOutB Try.prog = true := by kernel_rfl

set_option maxRecDepth 100000 in
theorem fnExactEdits_lifted (os : Os) (started : os.Started) (H : Type) (enc : TypeId × Value → H) :
    ReturnsInHanded {} Try.checked os 3 .any (Rows.fnExactEditsSpec.pre6 enc Try.prog Try.f3 Rows.fnExactEditsRow.domain false) (Rows.fnExactEditsSpec.post enc Try.prog Try.f3 false true false false) := by
  refine returnsInHanded_of_change (C := Try.checked) fnExactEdits_own started (by kernel_rfl) Try.func3
    (ChangeSpec.witness6 (enc := enc) (C := Try.checked) false ⟨#[], #[.slice none 0 0, .slice none 0 0], []⟩ 8 (by kernel_rfl) (by kernel_rfl) (by kernel_rfl) (by kernel_rfl)) ?_
  intro W base args ds gs before hval0 hW hcnd _
  have hval : ∀ (j : Nat) t v, Try.f3.params[j]? = some t → args[j]? = some v → Value.okWide Try.prog W .any base t v := hval0
  have hW' := hW
  obtain ⟨p, q, hA0, hV, rfl, hfz, hnd⟩ := hW
  have hA : DataW.TrodAll enc Try.prog W 0 (fun _ => true) true Try.f3.params.toList args.toList ds p := hA0
  rw [Try.params3] at hA hval
  obtain ⟨v0, vs0, d0, ds0, p0, q0, hargs, rfl, rfl, h0, r0⟩ := trodAll_cons hA
  obtain ⟨v1, vs1, d1, ds1, p1, q1, rfl, rfl, rfl, h1, r1⟩ := trodAll_cons r0
  obtain ⟨rfl, rfl, rfl⟩ := trodAll_nil r1
  obtain rfl : args = #[v0, v1] := by cases args; simp_all
  obtain ⟨rfl, rfl⟩ := trodVars_none hV
  obtain ⟨a0, len0, cap0, rfl⟩ := okWide_slice Try.underlying22 (hval 0 22 v0 rfl rfl)
  have k0 := h0
  have lt0 : ∀ x ∈ p0, x.block < W.heap.size := by obtain ⟨m, hm⟩ := k0; exact DataW.trod_lt m _ _ _ hm
  obtain ⟨pp0, po0, ms0, b0, l0, w0⟩ : ∃ (pp po : Nat) (J : List Ft), len0 ≤ 9223372036854775807 ∧ J.length = len0 ∧ (∀ f ∈ J, f.nm.size ≤ maxLen ∧ f.on.size ≤ maxLen ∧ f.ov.size ≤ maxLen) ∧ SlG ftc 15 W a0 pp po J := by
    obtain ⟨fuel, hf⟩ := h0
    obtain ⟨u, n, cap, pp, po, ms, hcs, hn, hl, hx⟩ := open_fts hf
    simp [Value.cells] at hcs
    obtain ⟨rfl, rfl, rfl⟩ := hcs
    exact ⟨pp, po, ms, hn, hl, hx⟩
  obtain ⟨a1, len1, cap1, rfl⟩ := okWide_slice Try.underlying22 (hval 1 22 v1 rfl rfl)
  have k1 := h1
  have lt1 : ∀ x ∈ p1, x.block < W.heap.size := by obtain ⟨m, hm⟩ := k1; exact DataW.trod_lt m _ _ _ hm
  obtain ⟨pp1, po1, ms1, b1, l1, w1⟩ : ∃ (pp po : Nat) (J : List Ft), len1 ≤ 9223372036854775807 ∧ J.length = len1 ∧ (∀ f ∈ J, f.nm.size ≤ maxLen ∧ f.on.size ≤ maxLen ∧ f.ov.size ≤ maxLen) ∧ SlG ftc 15 W a1 pp po J := by
    obtain ⟨fuel, hf⟩ := h1
    obtain ⟨u, n, cap, pp, po, ms, hcs, hn, hl, hx⟩ := open_fts hf
    simp [Value.cells] at hcs
    obtain ⟨rfl, rfl, rfl⟩ := hcs
    exact ⟨pp, po, ms, hn, hl, hx⟩
  clear hA0 hval0
  refine (fnExactEdits_walk a0 len0 cap0 pp0 po0 ms0 a1 len1 cap1 pp1 po1 ms1 W b0 l0 w0 b1 l1 w1).mono fun e W' ⟨he, bel⟩ => ?_
  subst he
  exact ⟨_, rfl, _, _, _, [], _, [], hW', trodAll_mk1 (shut_bool Try.underlying4 _), (trodAll_cons_mk (Below.trod fnExactEdits_laidOut (by kernel_rfl) (of_decide_eq_true (by kernel_rfl)) k0 bel lt0) (trodAll_cons_mk (Below.trod fnExactEdits_laidOut (by kernel_rfl) (of_decide_eq_true (by kernel_rfl)) k1 bel lt1) trodAll_mk0)), rfl, bel.frame _, fun h => by cases h⟩

theorem fnExactEdits_over : Rows.fnExactEditsRow.holds Try.pinned (OpenSpec.ofChange Rows.fnExactEditsSpec) :=
  OpenClaim.holds_of_wide 3 Try.f3 rfl rfl rfl rfl rfl rfl rfl ⟨rfl, rfl, rfl, rfl, rfl⟩ rfl rfl rfl rfl rfl (by kernel_rfl) Try.func3 (by kernel_rfl)
    (of_decide_eq_true (by kernel_rfl)) (by unfold Func.isWrapper; first | (rw [if_pos (by decide +kernel)]; kernel_rfl) | (rw [if_neg (by decide +kernel)]; exact ⟨rfl, rfl⟩))
    (fun os started H enc _ => fnExactEdits_lifted os started H enc)

/-- The statement, as it was given. -/
theorem fnExactEdits_holds : Rows.FnExactEditsSaid := fnExactEdits_over
#print axioms fnExactEdits_holds
end Go.Proofs.Ytkkmikgeppkhiaa
