/-
  DERIVED: THE SHELF's CONTRACTS AT THIS DUMP, IN PLAIN WORDS (tools/lay-plain.mjs out of 'YtkkmikgeppkhiaaIterS.lean', which tools/lay-shelf.mjs wrote): THE SAME DECLARATIONS UNDER THE SAME NAMES: 'import', 'namespace', 'open', 'def', 'theorem' AND NOTHING ELSE: no command of the shelf's: FOR A HAND-IN. Each laying: the table of numbers ('.._ren') and one theorem, a field a fact of the dump's own or the kernel's comparison; each contract: ONE APPLICATION. The sorted names of a map. The program's edits. Changes done to lists. Changes kept by names: whether a name lacks, a map cleared, a map copied. Changes kept by names. What is applied, plain. The program's Apply. The model's Apply.
-/
import Derived.Shelf.SlIter.Nil
import Derived.Shelf.SortM.Plain
import Derived.Shelf.SortM.SortNone
import Derived.Shelf.SlGeneric
import Derived.Ground.GgzProg
import Derived.Ground.SlgmProg
import Derived.Test.YtkkmikgeppkhiaaProg
import Derived.Test.YtkkmikgeppkhiaaMga
import Derived.Test.YtkkmikgeppkhiaaMgd
import Derived.Test.YtkkmikgeppkhiaaMgb
import Derived.Test.YtkkmikgeppkhiaaMgc
namespace Go.Proofs
open Go.Shelf
def Try.keys33_ren : Go.Shelf.Ren := ⟨fun | 7 => 33 | 10 => 55 | n => n, fun | 23 => 61 | 26 => 9 | 3 => 68 | 28 => 65 | 0 => 0 | 27 => 64 | 33 => 86 | 4 => 4 | n => n, fun | n => n⟩
theorem Try.keys33 : Go.Proofs.SlLaysZ.n7 Try.prog Try.keys33_ren := {
  mixed := by kernel_rfl
  f7 := ⟨Try.f33.name, by decide, Try.func33.trans (congrArg some (by kernel_rfl))⟩
  f10 := ⟨Try.f55.name, by decide, Try.func55.trans (congrArg some (by kernel_rfl))⟩
  t0 := Try.underlying0
  a0 := Try.isAgg0
  z0 := Try.sizeOf0
  v0 := Try.zeroValue0
  t4 := Try.underlying4
  a4 := Try.isAgg4
  z4 := Try.sizeOf4
  v4 := Try.zeroValue4
  t23 := Try.underlying61
  a23 := Try.isAgg61
  z23 := Try.sizeOf61
  v23 := Try.zeroValue61
  t26 := Try.underlying9
  a26 := Try.isAgg9
  z26 := Try.sizeOf9
  v26 := Try.zeroValue9
  t27 := Try.underlying64
  a27 := Try.isAgg64
  z27 := Try.sizeOf64
  v27 := Try.zeroValue64
  t28 := Try.underlying65
  a28 := Try.isAgg65
  z28 := Try.sizeOf65
  v28 := Try.zeroValue65
  t33 := Try.underlying86
  a33 := Try.isAgg86
  z33 := Try.sizeOf86
  v33 := Try.zeroValue86 }
def Try.sorted32_ren : Go.Shelf.Ren := ⟨fun | 6 => 32 | 8 => 53 | 9 => 54 | 11 => 69 | 13 => 71 | 12 => 70 | 23 => 88 | 24 => 89 | 14 => 79 | 15 => 80 | 16 => 81 | 17 => 82 | 18 => 83 | 19 => 84 | 20 => 85 | 21 => 86 | 22 => 87 | 25 => 99 | 26 => 100 | 27 => 101 | 28 => 102 | 29 => 103 | 30 => 104 | 31 => 111 | n => n, fun | 26 => 9 | 28 => 65 | 24 => 34 | 0 => 0 | 3 => 3 | 37 => 111 | 48 => 128 | 50 => 130 | 4 => 4 | 40 => 121 | 39 => 120 | 45 => 115 | 5 => 5 | 9 => 9 | 51 => 136 | 55 => 140 | 57 => 147 | 58 => 148 | 33 => 86 | n => n, fun | n => n⟩
theorem Try.sorted32 : Go.Proofs.SlLaysZ.n6 Try.prog Try.sorted32_ren := {
  mixed := by kernel_rfl
  f6 := ⟨Try.f32.name, by decide, Try.func32.trans (congrArg some (by kernel_rfl))⟩
  f8 := ⟨Try.f53.name, by decide, Try.func53.trans (congrArg some (by kernel_rfl))⟩
  f11 := ⟨Try.f69.name, by decide, Try.func69.trans (congrArg some (by kernel_rfl))⟩
  t0 := Try.underlying0
  a0 := Try.isAgg0
  z0 := Try.sizeOf0
  v0 := Try.zeroValue0
  t24 := Try.underlying34
  a24 := Try.isAgg34
  z24 := Try.sizeOf34
  v24 := Try.zeroValue34
  t26 := Try.underlying9
  a26 := Try.isAgg9
  z26 := Try.sizeOf9
  v26 := Try.zeroValue9
  t28 := Try.underlying65
  a28 := Try.isAgg65
  z28 := Try.sizeOf65
  v28 := Try.zeroValue65
  i26 := by kernel_rfl }
def Try.sort54_ren : Go.Shelf.Ren := ⟨fun | 6 => 54 | 8 => 71 | 9 => 70 | 19 => 88 | 20 => 89 | 21 => 79 | 22 => 80 | 23 => 81 | 24 => 82 | 25 => 83 | 26 => 84 | 27 => 85 | 28 => 86 | 29 => 87 | 36 => 99 | 31 => 100 | 32 => 101 | 37 => 102 | 38 => 103 | 39 => 104 | 41 => 111 | n => n, fun | 27 => 34 | 29 => 9 | 3 => 3 | 32 => 111 | 26 => 34 | 0 => 0 | 44 => 128 | 46 => 130 | 4 => 4 | 36 => 121 | 35 => 120 | 41 => 115 | 5 => 5 | 9 => 9 | 53 => 136 | 57 => 140 | 63 => 147 | 64 => 148 | n => n, fun | n => n⟩
theorem Try.sort54 : Go.Proofs.SlLaysM.n6 Try.prog Try.sort54_ren := {
  mixed := by kernel_rfl
  f6 := ⟨Try.f54.name, by decide, Try.func54.trans (congrArg some (by kernel_rfl))⟩
  f8 := Try.func71.trans (congrArg some (by kernel_rfl))
  f9 := ⟨Try.f70.name, by decide, Try.func70.trans (congrArg some (by kernel_rfl))⟩
  f19 := Try.func88.trans (congrArg some (by kernel_rfl))
  f20 := Try.func89.trans (congrArg some (by kernel_rfl))
  f21 := ⟨Try.f79.name, by decide, Try.func79.trans (congrArg some (by kernel_rfl))⟩
  f22 := ⟨Try.f80.name, by decide, Try.func80.trans (congrArg some (by kernel_rfl))⟩
  f23 := ⟨Try.f81.name, by decide, Try.func81.trans (congrArg some (by kernel_rfl))⟩
  f24 := ⟨Try.f82.name, by decide, Try.func82.trans (congrArg some (by kernel_rfl))⟩
  f25 := ⟨Try.f83.name, by decide, Try.func83.trans (congrArg some (by kernel_rfl))⟩
  f26 := ⟨Try.f84.name, by decide, Try.func84.trans (congrArg some (by kernel_rfl))⟩
  f27 := ⟨Try.f85.name, by decide, Try.func85.trans (congrArg some (by kernel_rfl))⟩
  f28 := ⟨Try.f86.name, by decide, Try.func86.trans (congrArg some (by kernel_rfl))⟩
  f29 := ⟨Try.f87.name, by decide, Try.func87.trans (congrArg some (by kernel_rfl))⟩
  f31 := Try.func100.trans (congrArg some (by kernel_rfl))
  f32 := Try.func101.trans (congrArg some (by kernel_rfl))
  f36 := ⟨Try.f99.name, by decide, Try.func99.trans (congrArg some (by kernel_rfl))⟩
  f37 := ⟨Try.f102.name, by decide, Try.func102.trans (congrArg some (by kernel_rfl))⟩
  f38 := ⟨Try.f103.name, by decide, Try.func103.trans (congrArg some (by kernel_rfl))⟩
  f39 := ⟨Try.f104.name, by decide, Try.func104.trans (congrArg some (by kernel_rfl))⟩
  f41 := ⟨Try.f111.name, by decide, Try.func111.trans (congrArg some (by kernel_rfl))⟩
  t0 := Try.underlying0
  a0 := Try.isAgg0
  z0 := Try.sizeOf0
  v0 := Try.zeroValue0
  t3 := Try.underlying3
  a3 := Try.isAgg3
  z3 := Try.sizeOf3
  v3 := Try.zeroValue3
  t4 := Try.underlying4
  a4 := Try.isAgg4
  z4 := Try.sizeOf4
  v4 := Try.zeroValue4
  t5 := Try.underlying5
  a5 := Try.isAgg5
  z5 := Try.sizeOf5
  v5 := Try.zeroValue5
  t9 := Try.underlying9
  a9 := Try.isAgg9
  z9 := Try.sizeOf9
  v9 := Try.zeroValue9
  t26 := Try.underlying34
  a26 := Try.isAgg34
  z26 := Try.sizeOf34
  v26 := Try.zeroValue34
  t27 := Try.underlying34
  a27 := Try.isAgg34
  z27 := Try.sizeOf34
  v27 := Try.zeroValue34
  t29 := Try.underlying9
  a29 := Try.isAgg9
  z29 := Try.sizeOf9
  v29 := Try.zeroValue9
  t32 := Try.underlying111
  a32 := Try.isAgg111
  z32 := Try.sizeOf111
  v32 := Try.zeroValue111
  t35 := Try.underlying120
  a35 := Try.isAgg120
  z35 := Try.sizeOf120
  v35 := Try.zeroValue120
  t36 := Try.underlying121
  a36 := Try.isAgg121
  z36 := Try.sizeOf121
  v36 := Try.zeroValue121
  t41 := Try.underlying115
  a41 := Try.isAgg115
  z41 := Try.sizeOf115
  v41 := Try.zeroValue115
  t44 := Try.underlying128
  a44 := Try.isAgg128
  z44 := Try.sizeOf128
  v44 := Try.zeroValue128
  t46 := Try.underlying130
  a46 := Try.isAgg130
  z46 := Try.sizeOf130
  v46 := Try.zeroValue130
  t53 := Try.underlying136
  a53 := Try.isAgg136
  z53 := Try.sizeOf136
  v53 := Try.zeroValue136
  t57 := Try.underlying140
  a57 := Try.isAgg140
  z57 := Try.sizeOf140
  v57 := Try.zeroValue140
  t63 := Try.underlying147
  a63 := Try.isAgg147
  z63 := Try.sizeOf147
  v63 := Try.zeroValue147
  t64 := Try.underlying148
  a64 := Try.isAgg148
  z64 := Try.sizeOf148
  v64 := Try.zeroValue148 }
end Go.Proofs

namespace Go.Proofs.Ytkkmikgeppkhiaa
open Go.ChangeShapes Go.WideShapes Go.ChangeAt Go.RowKit Go.Maps Go.WideMaps Go.Sort Go.Shelf
set_option linter.unusedVariables false
set_option linter.unusedSimpArgs false

theorem sorts32 (m : Nat) : AnyZ.SortsIn Try.prog Try.sorted32_ren Fence.wide m :=
  ⟨fun blk off cap ss W hH hblk hsz => callsIn_wide.2 (AnyM.slices_Sort_string Try.sort54 blk off cap ss W hH hblk hsz),
   fun p cap W => callsIn_wide.2 (AnyM.slices_Sort_string_none Try.sort54 p cap W)⟩
theorem keys_any (b : Nat) (W : World) : Calls Try.prog 33 #[.map (some b)] W fun e w' => e = .returned (.func (.func 55) #[] #[.pointer (some ⟨W.heap.size, 0, none⟩)]) ∧ w' = W.alloc (.cells #[.map (some b)] 61) :=
  callsIn_wide.1 (AnyZ.keys_in Try.keys33 Fence.wide 5 trivial rfl (some b) W)
def bts (x : List UInt8) : ByteArray := ⟨x.toArray⟩
theorem bts_l (x : List UInt8) : (bts x).toList = x := by rw [bts, ByteArray.toList_eq]
theorem keyL_bts (x : List UInt8) : keyL (bts x) = .string x := by simp [keyL, bts]
theorem enc_strs (L : List (List UInt8)) : L.map encStr = strs (L.map bts) := by
  unfold strs
  rw [List.map_map]
  rfl
theorem nms_of {D : DataW Two} {f : ByteArray → Option Two} (hd : Dat D f) (K : ∃ es, D = .map es ∧ es.Pairwise (fun p q => p.1 ≠ q.1) ∧ ∀ p ∈ es, WideAt.IsKeyLit p.1 ∧ ∃ x, p.1 = .string x) {ss : List (List UInt8)} (hp : ss.Perm (strKeys D)) :
    Nms (fun s => (f s).isSome = true) ((ss.mergeSort (fun x y => decide (x ≤ y))).map bts) := by
  obtain ⟨es, rfl, hpw, hk⟩ := K
  have hnd0 : (es.map fun p => strOf p.1).Nodup := by
    refine List.pairwise_map.2 (hpw.imp_of_mem fun {p q} hp' hq' hne e => hne ?_)
    obtain ⟨_, a, ha⟩ := hk p hp'
    obtain ⟨_, b, hb⟩ := hk q hq'
    rw [ha, hb] at e ⊢
    exact congrArg _ e
  have hp' : ss.Perm (es.map fun p => strOf p.1) := hp
  have hnd : ss.Nodup := hp'.nodup_iff.2 hnd0
  have hkeys : ∀ x, x ∈ ss ↔ has (DataW.map es) (.string x) = true := by
    intro x
    rw [hp'.mem_iff, has_eq, List.any_eq_true, List.mem_map]
    constructor
    · rintro ⟨p, hpm, e⟩
      refine ⟨p, hpm, ?_⟩
      obtain ⟨h1, y, hy⟩ := hk p hpm
      rw [hy] at e h1 ⊢
      have : y = x := e
      subst this
      exact WideAt.sameKey_self h1
    · rintro ⟨p, hpm, e⟩
      refine ⟨p, hpm, ?_⟩
      obtain ⟨h1, y, hy⟩ := hk p hpm
      by_cases hxy : y = x
      · rw [hy, hxy]; rfl
      · rw [hy, sameKey_ne (fun h => hxy (by injection h))] at e
        cases e
  have tr : ∀ a b c : List UInt8, decide (a ≤ b) = true → decide (b ≤ c) = true → decide (a ≤ c) = true := fun a b c h1 h2 => by simp only [decide_eq_true_eq] at *; exact List.le_trans h1 h2
  have tot : ∀ a b : List UInt8, (decide (a ≤ b) || decide (b ≤ a)) = true := fun a b => by simp only [Bool.or_eq_true, decide_eq_true_eq]; exact List.le_total a b
  have hs := List.pairwise_mergeSort tr tot ss
  have hm := List.mergeSort_perm ss (fun x y => decide (x ≤ y))
  have hnd2 : (ss.mergeSort fun x y => decide (x ≤ y)).Nodup := hm.nodup_iff.2 hnd
  constructor
  · refine List.pairwise_map.2 ((hs.and hnd2).imp ?_)
    rintro a b ⟨h1, h2⟩
    show Op.bytesLess (bts a).toList (bts b).toList = true
    rw [bts_l, bts_l, bl_lt, decide_eq_true_eq]
    rw [decide_eq_true_eq] at h1
    rcases bl_tri a b with h | h | h
    · rw [bl_lt, decide_eq_true_eq] at h; exact h
    · exact (h2 h).elim
    · rw [bl_lt, decide_eq_true_eq] at h; exact (h1 h).elim
  · intro s
    show _ ↔ (f s).isSome = true
    rw [List.mem_map, ← (hd s).1]
    constructor
    · rintro ⟨x, hx, rfl⟩
      rw [hm.mem_iff] at hx
      rw [keyL_bts]
      exact (hkeys x).1 hx
    · intro h
      refine ⟨s.data.toList, hm.mem_iff.2 ((hkeys _).2 h), ?_⟩
      simp [bts]
theorem sorted_any (b n : Nat) (f : ByteArray → Option Two) (w : World) (h : Mp w b n f) (hn : n ≤ 10000) :
    Calls Try.prog 32 #[.func (.func 55) #[] #[.pointer (some ⟨w.heap.size, 0, none⟩)]] (w.alloc (.cells #[.map (some b)] 61)) fun e w' => ∃ v ns, e = .returned v ∧ Nms (fun s => (f s).isSome = true) ns ∧ ns.length ≤ n ∧
      SRow w' (w.heap.size + 1) v ns ∧ Below (w.alloc (.cells #[.map (some b)] 61)).heap.size (w.alloc (.cells #[.map (some b)] 61)) w' := by
  obtain ⟨D, hown, hd⟩ := h
  have hbl := hown.lt
  have hsz : Maps.size D ≤ n := hown.size_le
  have hseq : SeqGives Fence.wide 2 Try.prog 55 #[.pointer (some ⟨w.heap.size, 0, none⟩)] encStr (fun ss => ss.Perm (strKeys D)) (Maps.size D) (w.alloc (.cells #[.map (some b)] 61)) :=
    AnyZ.keys_gives (ρ := Try.keys33_ren) { Try.keys33 with } Fence.wide _ trivial rfl (by omega) w.heap.size b n D _ (by simp) (by simp) (by
      obtain ⟨es, clock, hb, Ft, hs, hD⟩ := hown
      exact ⟨es, clock, (Below.heap_alloc _ _ b hbl).trans hb, Ft, hs, hD⟩)
  have H := AnyZ.sorted_in Try.sorted32 Fence.wide 5 trivial trivial trivial trivial rfl (by omega) (sorts32 _) (enters_of Try.func54 (by kernel_rfl) rfl) 55 #[.pointer (some ⟨w.heap.size, 0, none⟩)] trivial (enters_of Try.func55 (by kernel_rfl) rfl) _ _ (by unfold maxLen; omega) (by omega) _ hseq
  refine (callsIn_wide.1 H).mono ?_
  rintro e w' ⟨v, ss, rfl, hperm, hrow, _, hb⟩
  have hk : ∃ es, D = .map es ∧ es.Pairwise (fun p q => p.1 ≠ q.1) ∧ ∀ p ∈ es, WideAt.IsKeyLit p.1 ∧ ∃ x, p.1 = .string x := by
    obtain ⟨es, e1, h1, h2⟩ := hown.entries lawK
    obtain ⟨es2, e2, h3⟩ := World.ownsMap.keysOf hown
    have e3 : es = es2 := by rw [e1] at e2; injection e2
    subst e3
    refine ⟨es, e1, h1, fun p hp => ⟨h2 p hp, ?_⟩⟩
    obtain ⟨v, hv⟩ := h3 p hp
    obtain ⟨x, _, hx, _⟩ := Maps.keyOf_str Try.underlying9 hv
    exact ⟨x, hx⟩
  have hN := nms_of hd hk hperm
  have hll : ss.length ≤ n := by
    rw [hperm.length_eq]
    obtain ⟨es, rfl, _⟩ := hk
    have : (strKeys (DataW.map es)).length = Maps.size (DataW.map es) := by simp [strKeys, Maps.size]
    omega
  refine ⟨v, _, rfl, hN, by rw [List.length_map, List.length_mergeSort]; exact hll, ?_, hb⟩
  rw [enc_strs] at hrow
  unfold SRow
  rw [List.length_map, List.length_mergeSort]
  have : (w.alloc (.cells #[.map (some b)] 61)).heap.size = w.heap.size + 1 := by simp
  rw [← this]
  exact hrow
end Go.Proofs.Ytkkmikgeppkhiaa

namespace Go.Proofs.Ytkkmikgeppkhiaa
open Go.ChangeShapes Go.WideShapes Go.ChangeAt Go.RowKit Go.Maps Go.WideMaps
set_option linter.unusedVariables false
set_option linter.unusedSimpArgs false

theorem Lok.lst {w : World} {u : Option Addr} {p po n c : Nat} {fs : List Ft} (h : Lok w ⟨u, p, po, c, fs⟩) (hl : fs.length = n) (hf : Fine fs) : Lst w u p po n fs :=
  ⟨hl, by rw [← hl]; have := hf.len; omega, h.at_, hf.dif, fun f hm => (h.size f hm).1⟩
theorem fss2 (a b : Ls) : fss [a, b] = [a.fs, b.fs] := rfl
theorem ekd_range (p : Two) : -9223372036854775808 ≤ ekd p ∧ ekd p ≤ 9223372036854775807 := by
  unfold ekd
  split
  · omega
  · split <;> omega
set_option maxRecDepth 100000 in
set_option maxHeartbeats 8000000 in
theorem editsP_any (u1 : Option Addr) (p1 o1 n1 c1 : Nat) (B : List Ft) (u2 : Option Addr) (p2 o2 n2 c2 : Nat) (L : List Ft) (w : World) (hl1 : B.length = n1) (hl2 : L.length = n2) (h1 : Lok w ⟨u1, p1, o1, c1, B⟩) (h2 : Lok w ⟨u2, p2, o2, c2, L⟩) :
    Calls Try.prog 9 #[.slice u1 n1 c1, .slice u2 n2 c2] w (EdEnd B L w) := by
  obtain ⟨iE, hi, hx0, hx1, hx2⟩ := info_parts info54
  have HL1 := hide hl1
  have HL2 := hide hl2
  have H1 := hide h1
  have H2 := hide h2
  clear hl1 hl2 h1 h2
  have HB0 := hide (ba (Below.refl w.heap.size w) (.cells #[.slice u1 n1 c1, .slice u2 n2 c2] 27))
  have HLS : Hid (LsAt (w.alloc (.cells #[.slice u1 n1 c1, .slice u2 n2 c2] 27)) w.heap.size 0 [⟨u1, p1, o1, c1, B⟩, ⟨u2, p2, o2, c2, L⟩]) := hide ⟨by simp, fun i l hi => by
    match i, hi with
    | 0, hi => cases hi; show _ = some (Value.slice u1 B.length c1); rw [unhide HL1]; simp [go_sem]
    | 1, hi => cases hi; show _ = some (Value.slice u2 L.length c2); rw [unhide HL2]; simp [go_sem]⟩
  have HC := hide (codes_any w.heap.size 0 2 2 [⟨u1, p1, o1, c1, B⟩, ⟨u2, p2, o2, c2, L⟩] (w.alloc (.cells #[.slice u1 n1 c1, .slice u2 n2 c2] 27)) rfl (by omega) (by
      intro l hl
      simp only [List.mem_cons, List.not_mem_nil, or_false] at hl
      rcases hl with rfl | rfl
      · exact (unhide H1).bel (ba (Below.refl _ _) _)
      · exact (unhide H2).bel (ba (Below.refl _ _) _)) (unhide HLS))
  rw [fss2] at HC
  clear HLS
  go_enter Try.func9, Try.ntmps9
  go_wp2_with fail
  refine (unhide HC).mono ?_
  rintro e W1 ⟨⟨c, rfl, hvc⟩, hb⟩
  have HV := hide hvc
  have HB1 := hide (bc (unhide HB0) hb)
  clear hvc hb HC
  by_cases hc : c = 0
  rotate_left
  · have c0 : (c != 0) = true := by simpa using hc
    have HC0 := hide hc
    clear hc
    go_wp2_with fail
    refine bodyPost_ret (v := .tuple #[.slice none 0 0, .int .i64 c]) (by simp [results, Try.results9, go_sem]; done) rfl ?_
    exact edEnd_code (unhide HV) (unhide HC0) (own_nil _ _ _ _) (unhide HB1)
  subst hc
  have hF := (unhide HV).zero
  have hF1 := hF B (by simp)
  have hF2 := hF L (by simp)
  have HF1 := hide hF1
  have HF2 := hide hF2
  have hn1 : n1 ≤ 30 := by rw [← unhide HL1]; exact hF1.len
  have hn2 : n2 ≤ 30 := by rw [← unhide HL2]; exact hF2.len
  have HED := hide (edits_any u1 p1 o1 n1 c1 B u2 p2 o2 n2 c2 L W1 (((unhide H1).bel (unhide HB1)).lst (unhide HL1) hF1) (((unhide H2).bel (unhide HB1)).lst (unhide HL2) hF2))
  clear hF hF1 hF2
  go_wp2_with fail
  refine (unhide HED).mono ?_
  rintro e W2 ⟨rfl, hm, hb⟩
  have HM := hide hm
  have HB2 := hide (bc (unhide HB1) hb)
  have HKY := hide (keys_any W1.heap.size W2)
  have HSO := hide (sorted_any W1.heap.size (n1 + n2) _ W2 hm (by omega))
  have hmlt := hm.lt
  clear hm hb
  go_wp2_with fail
  refine (unhide HKY).mono ?_
  rintro e W3 ⟨rfl, rfl⟩
  go_wp2_with fail
  refine (unhide HSO).mono ?_
  rintro e W4 ⟨v, ns, rfl, hns, hnl, hs, hb4⟩
  have HN := hide hns
  have hb24 : Below W2.heap.size W2 W4 := bc (ba (Below.refl _ _) _) hb4
  have HB4 := hide (bc (unhide HB2) hb24)
  have HM4 := hide ((unhide HM).bel hb24)
  have HNB := hide (fun s (hs : s ∈ ns) => (by have this : (eds B L s).isSome = true := (hns.2 s).1 hs; rw [Option.isSome_iff_exists] at this; obtain ⟨p, hp⟩ := this; have h3 := eds_knd (B := B) (L := L) (fun f hf => (unhide HF1).nm0 hf) (fun f hf => (unhide HF2).nm0 hf) s; have h4 := h3.1.1 (by rw [hp]; rfl); have h5 := knd_mem h4; rw [List.mem_append] at h5; rcases h5 with h5 | h5 <;> obtain ⟨f, hf, rfl⟩ := List.mem_map.1 h5; exact ((unhide H1).size f hf).1; exact ((unhide H2).size f hf).1 : s.size ≤ maxLen))
  have hqe : ∃ q, ns.length = q ∧ q ≤ 1048576 := ⟨_, rfl, by omega⟩
  obtain ⟨q, hq, hq1⟩ := hqe
  obtain ⟨uS, cS, rfl, _⟩ := own_form hs
  have hSt := (SRow.stAt hs).2
  rw [hq]
  have HQ := hide hq
  have HST := hide hSt
  have HMX := hide (fun W (h : Mp W W1.heap.size (n1 + n2) (eds B L)) => h)
  clear hs hb4 hb24 hq hSt hns hnl HSO HKY HED
  go_wp2_with fail
  go_loopw [8, 25] (fun v s W => ∃ (i : Nat), s = .int .i64 (i : Int) ∧ i ≤ q ∧ W.ownsRow W4.heap.size 54 2 v i (flatG edc ((ns.take i).map fun s => (ekd ((eds B L s).getD p0), s))) ∧ Below W4.heap.size W4 W) (fun _ s _ => q - (intOf s).toNat)
  case atStart => exact ⟨0, rfl, by omega, own_nil _ _ _ _, Below.refl _ _⟩
  case round =>
    obtain ⟨i, rfl, hi1, hrow, hw4⟩ := hrel
    have HR := hide hrow
    have HW := hide (bc (unhide HB4) hw4)
    have HW4 := hide hw4
    obtain ⟨ug, cg, rfl, _⟩ := own_form hrow
    clear hrow hw4
    by_cases h : i < q
    · have i1 : (i : Int) < (q : Int) := by omega
      have i0 : (0 : Int) ≤ (i : Int) := Int.natCast_nonneg _
      have iz : decide ((i : Int) < (q : Int)) = true := decide_eq_true i1
      obtain ⟨s, hx⟩ := get_some (unhide HQ) h
      have hne : ns ≠ [] := by intro e; subst e; cases hx
      obtain ⟨g, o, rfl, hgl, hc⟩ := ((unhide HST).bel (unhide HW4)) hne
      have k0 := hc i s hx
      have hss := unhide HNB s (List.mem_of_getElem? hx)
      have HTK : Hid ((ns.take (i + 1)).map (fun s => (ekd ((eds B L s).getD p0), s)) = (ns.take i).map (fun s => (ekd ((eds B L s).getD p0), s)) ++ [(ekd ((eds B L s).getD p0), s)]) := hide (by rw [List.take_add_one, hx, Option.toList_some, List.map_append]; rfl)
      obtain ⟨P, hP⟩ := bl_ex ((eds B L s).getD p0)
      have hlk := ((unhide HM4).bel (unhide HW4)).get und61 s hss
      rw [hP.v] at hlk
      have HKD := hide (fun W => kind_any ((eds B L s).getD p0) W)
      rw [hP.v] at HKD
      clear hx hc hne hss hP
      go_wp2_with fail
      refine (unhide HKD _).mono ?_
      rintro e W5 ⟨rfl, hb5⟩
      have HW5 := hide (bc (unhide HW4) hb5)
      have HR5 := hide (own_bel (unhide HR) hb5)
      clear hb5 k0 hlk
      generalize ekd ((eds B L s).getD p0) = kd at *
      go_wp2_with (at_builtin; refine unhide ?_)
      refine hide ?_
      refine wpList_append_own _ rfl _ _ 24 rfl W4.heap.size 54 iE _ 2 24 Try.underlying24 hi hx0 hx1 hx2 rfl (by decide) _ i _ rfl ((unhide HR5).alloc _) _ 1 1 [.int .i64 kd, .string s] rfl rfl (by first | exact news_cells _ _ rfl | exact news_cells _ _ (by simp)) (by intro u hu; simp at hu; rcases hu with rfl | rfl <;> rfl) (by unfold maxLen; omega) (by omega) (Nat.le_trans (unhide HW5).size (by simp)) ?_
      intro v' w1 hown' hgrow _
      have R := hide (own_ed (Below.alloc (Below.refl W4.heap.size _) (unhide HW5).size _) (Nat.le_trans (unhide HW5).size (by simp)) (unhide HR5) hown' hgrow)
      clear hown' hgrow
      go_wp2_with fail
      go_roundw
      case rel => exact ⟨i + 1, by simp, h, by rw [unhide HTK]; exact (unhide R).1, (unhide HW5).trans (unhide R).2⟩
      case measure => simp only [intOf]; omega
    · have i1 : ¬ (i : Int) < (q : Int) := by omega
      have iz : decide ((i : Int) < (q : Int)) = false := decide_eq_false i1
      have HE : Hid (ns.take i = ns) := hide (List.take_of_length_le (by rw [unhide HQ]; omega))
      have HIQ : Hid (i = q) := hide (by omega)
      go_wp2_with fail
      refine bodyPost_ret (v := .tuple #[.slice ug i cg, .int .i64 0]) (by simp [results, Try.results9, go_sem]; done) rfl ?_
      have h1 := unhide HR
      rw [unhide HE] at h1
      refine ⟨⟨_, 0, _, rfl, ⟨unhide HV, by rw [if_pos rfl]; exact edl_p (fun f hf => (unhide HF1).nm0 hf) (fun f hf => (unhide HF2).nm0 hf) (unhide HN)⟩, ?_⟩, unhide HW⟩
      unfold ERow
      rw [List.length_map, unhide HQ, ← unhide HIQ]
      exact own_mono h1 (unhide HB4).size
end Go.Proofs.Ytkkmikgeppkhiaa

namespace Go.Proofs.Ytkkmikgeppkhiaa
open Go.ChangeShapes Go.WideShapes Go.ChangeAt Go.RowKit Go.Maps Go.WideMaps
set_option linter.unusedVariables false
set_option linter.unusedSimpArgs false

theorem info57 : (Try.prog.info? 57).map (fun i => (i.zero, i.size, i.bytes)) = some (some (ftv ft0), 15, 144) := by kernel_rfl
theorem filterMap_take {fs : List Ft} {k : Nat} {f : Ft} (g : Ft → Option Ft) (h : fs[k]? = some f) : (fs.take (k + 1)).filterMap g = (fs.take k).filterMap g ++ (g f).toList := by
  rw [List.take_add_one, h, Option.toList_some, List.filterMap_append]
  cases e : g f <;> simp [e]
theorem filter_take {fs : List Ft} {k : Nat} {f : Ft} (g : Ft → Bool) (h : fs[k]? = some f) : (fs.take (k + 1)).filter g = (fs.take k).filter g ++ (if g f then [f] else []) := by
  rw [List.take_add_one, h, Option.toList_some, List.filter_append]
  cases e : g f <;> simp [e]
theorem flat_len (l : List Ft) : (flatG ftc l).length = l.length * 15 := flatG_len (c := ftc) (k := 15) (fun _ => rfl) l
theorem flat_one (x : Ft) : flatG ftc [x] = ftc x := by simp [flatG]
theorem news_F {F : Array Value} {x : Ft} (h : Fl F x) {W : World} {e : TypeId} (g : Nat) (hg : g = W.heap.size) : ∀ (j : Nat) (u : Value), (ftc x)[j]? = some u → (W.alloc (.cells F e)).cell? ((⟨g, 0, none⟩ : Addr).add j) = some u := by
  intro j u hu
  rw [add_none, Nat.zero_add]
  exact (ab_new W e F g hg).cell (by rw [h.l]; exact hu)
theorem fold_F {F : Array Value} {x : Ft} (h : Fl F x) : Array.foldl (fun (cs : Array Value) (x : Value × Nat) => cs.setIfInBounds x.2 x.1) #[.string ⟨#[]⟩, .string ⟨#[]⟩, .string ⟨#[]⟩, .int .i64 0, .int .i64 0, .int .i64 0, .int .i64 0, .int .i64 0, .int .i64 0, .int .i64 0, .int .i64 0, .int .i64 0, .int .i64 0, .int .i64 0, .int .i64 0] F.zipIdx 0 15 = F := by
  have e : F = #[.string x.nm, .string x.on, .string x.ov, .int .i64 x.kd, .int .i64 x.sd, .int .i64 x.x0, .int .i64 x.y0, .int .i64 x.z0, .int .i64 x.x1, .int .i64 x.y1, .int .i64 x.z1, .int .i64 x.ct, .int .i64 x.dx, .int .i64 x.dy, .int .i64 x.dz] := by
    rw [← Array.toList_inj, h.l]; rfl
  subst e
  simp
/-- one more feature in a row -/
theorem own_ft {w W2 w1 : World} {B n : Nat} {v v' : Value} {l : List Ft} {x : Ft} (hb : Below B w W2) (hB : B ≤ W2.heap.size) (h : w.ownsRow B 57 15 v n (flatG ftc l)) (h' : w1.ownsRow B 57 15 v' (n + 1) (flatG ftc l ++ ftc x)) (hg : W2.grownBy w1 v.ownBlock) :
    w1.ownsRow B 57 15 v' (n + 1) (flatG ftc (l ++ [x])) ∧ Below B w w1 := by
  have := own_moreV hb hB h h' hg
  rw [flatG_append, flat_one]
  exact this
set_option maxRecDepth 100000 in
set_option maxHeartbeats 8000000 in
theorem done_any (b nm : Nat) (f : ByteArray → Option Two) (u1 : Option Addr) (p1 o1 n1 c1 : Nat) (B : List Ft) (u2 : Option Addr) (p2 o2 n2 c2 : Nat) (L : List Ft) (w : World) (hm : Mp w b nm f) (h1 : Lst w u1 p1 o1 n1 B) (h2 : Lst w u2 p2 o2 n2 L) :
    Calls Try.prog 43 #[.map (some b), .slice u1 n1 c1, .slice u2 n2 c2] w fun e w' => ∃ v, e = .returned v ∧ w'.ownsRow w.heap.size 57 15 v (dTo f B L).length (flatG ftc (dTo f B L)) ∧ Below w.heap.size w w' := by
  obtain ⟨iF, hi, hx0, hx1, hx2⟩ := info_parts info57
  have HM := hide hm
  have H1 := hide h1
  have H2 := hide h2
  have HL1 := hide h1.len
  have HL2 := hide h2.len
  have hn1 := h1.le
  have hn2 := h2.le
  clear hm h1 h2
  go_enter Try.func43, Try.ntmps43
  go_wp2_with fail
  go_loopw [7, 15] (fun v s W => ∃ i m : Nat, s = .int .i64 (i : Int) ∧ i ≤ n1 ∧ m ≤ i ∧ ((B.take i).filterMap (dnB f)).length = m ∧ W.ownsRow w.heap.size 57 15 v m (flatG ftc ((B.take i).filterMap (dnB f))) ∧ Below w.heap.size w W) (fun _ s _ => n1 - (intOf s).toNat)
  case atStart => exact ⟨0, 0, rfl, Nat.zero_le _, Nat.le_refl _, rfl, own_nil _ _ _ _, Below.refl _ _⟩
  case round =>
    obtain ⟨i, m, rfl, hi1, hmi, hlen, hrow, hw⟩ := hrel
    have HR := hide hrow
    have HW := hide hw
    have HLN := hide hlen
    obtain ⟨ug, cg, rfl, _⟩ := own_form hrow
    clear hrow hw hlen
    by_cases h : i < n1
    · have i1 : (i : Int) < (n1 : Int) := by omega
      have i0 : (0 : Int) ≤ (i : Int) := Int.natCast_nonneg _
      have iz : decide ((i : Int) < (n1 : Int)) = true := decide_eq_true i1
      obtain ⟨x, hx⟩ := get_some (unhide HL1) h
      obtain ⟨F, hF⟩ := fl_ex x
      obtain ⟨rfl, hpw, hld⟩ := SlG.load hF ((unhide H1).bel (unhide HW)).at_ hx
      have LD := hide hld
      have HI := hide hF.info
      have HO := hide hF.one
      have HF := hide hF
      have hfold := fold_F hF
      have hsz := hF.size
      have hns := (unhide H1).size x (List.mem_of_getElem? hx)
      have HNS := hide hns
      have HTK := hide (filterMap_take (dnB f) hx)
      have HLF := hide (fun g W (h : ab W g 57 F) => hF.load0 h)
      have cF0 : F[0]'(by omega) = .string x.nm := by
        have c0 : F[0]? = some (.string x.nm) := by rw [← Array.getElem?_toList, hF.l]; rfl
        rw [Array.getElem?_eq_getElem (by omega)] at c0
        exact Option.some.inj c0
      have HN := hide (ab_new wr 57 F _ rfl)
      have HWN := hide (ba (unhide HW) (.cells F 57))
      have HMN := hide ((unhide HM).bel (unhide HWN))
      have HRN := hide (own_bel (unhide HR) (ba (Below.refl _ _) (.cells F 57)))
      have HLA := hide (fun W (h : Below w.heap.size w W) => lacks_any b nm f x.nm W ((unhide HM).bel h) (unhide HNS))
      clear hld hx hF hns
      go_wp2_with (first | refine wpl_loadAt rfl 57 (.tmp 17) rfl _ rfl _ (unhide LD) ?_ | refine wpl_putNew rfl 57 _ _ rfl wr _ F 57 rfl rfl (unhide HI) (by rw [hsz]; rfl) (unhide HO) ?_)
      refine (unhide HLA _ (unhide HWN)).mono ?_
      rintro e W1 ⟨rfl, hb1⟩
      have HN1 := hide ((unhide HN).bel hb1)
      have HW1 := hide (bc (unhide HWN) hb1)
      have HM1 := hide ((unhide HMN).bel hb1)
      have HR1 := hide (own_bel (unhide HRN) hb1)
      have hlt1 := (unhide HW1).size
      clear hb1 cF0
      have hdn : dnB f x = match f x.nm with | none => some x | some p => if fE p.2 ft0 then none else some p.2 := rfl
      have HLK := hide ((unhide HM1).get und61 x.nm (unhide HNS))
      cases hfx : f x.nm with
      | none =>
        rw [hfx] at hdn
        have HTK2 : Hid ((B.take (i + 1)).filterMap (dnB f) = (B.take i).filterMap (dnB f) ++ [x]) := hide (by rw [unhide HTK, hdn]; rfl)
        clear hdn hfx
        go_wp2_with (first
          | refine wpl_loadAt rfl 57 (.tmp 9) rfl _ rfl _ (unhide HLF _ _ (unhide HN1)) ?_
          | (at_builtin; refine unhide ?_))
        refine hide ?_
        refine wpList_append_own _ rfl _ _ 27 rfl w.heap.size 57 iF _ 15 144 Try.underlying27 hi hx0 hx1 hx2 rfl (by decide) _ m _ rfl (own_bel (unhide HR1) (ba (Below.refl _ _) _)) _ 1 1 (ftc x) rfl rfl (news_F (unhide HF) _ rfl) (ftc_one x) (by unfold maxLen; omega) (by omega) (by simp; omega) ?_
        intro v' w1 hown' hgrow _
        have R := hide (own_ft (Below.alloc (Below.refl w.heap.size _) (unhide HW1).size _) (by have := (unhide HW1).size; simp; omega) (unhide HR1) hown' hgrow)
        clear hown' hgrow
        go_wp2_with fail
        go_roundw
        case rel => exact ⟨i + 1, m + 1, by simp, h, by omega, by rw [unhide HTK2, List.length_append, unhide HLN]; rfl, by rw [unhide HTK2]; exact (unhide R).1, (unhide HW1).trans (unhide R).2⟩
        case measure => simp only [intOf]; omega
      | some p =>
        rw [hfx] at hdn
        rw [hfx] at HLK
        simp only [Option.getD_some] at HLK
        simp only at hdn
        have hc1 : W1.cell? ⟨wr.heap.size, 0, none⟩ = some (.string x.nm) := (unhide HN1).cell (by rw [(unhide HF).l]; rfl)
        obtain ⟨P, hP⟩ := bl_ex p
        obtain ⟨G, hG⟩ := fl_ex p.2
        have hlk := unhide HLK
        rw [hP.v] at hlk
        have HIP := hide hP.info
        have HOP := hide hP.one
        have hsP := hP.size
        have HLP := hide (fun g W (h : ab W g 68 P) => hP.load h)
        have HLG := hide (fun g W (h : ab W g 68 P) => hP.load2 hG h)
        have HLO := hide (fun W => lost_any p W)
        rw [hP.v] at HLO
        have HG := hide hG
        have hfoldG := fold_F hG
        have hsG := hG.size
        have HNP := hide (ab_new W1 68 P _ rfl)
        have HW2 := hide (ba (unhide HW1) (.cells P 68))
        have HR2 := hide (own_bel (unhide HR1) (ba (Below.refl _ _) (.cells P 68)))
        clear hfx hP hG HLK hfold
        go_wp2_with (first | refine wpl_putNew rfl 68 _ _ rfl W1 _ P 68 rfl rfl (unhide HIP) (by rw [hsP]; rfl) (unhide HOP) ?_ | refine wpl_loadAt rfl 68 (.tmp 10) rfl _ rfl _ (unhide HLP _ _ (unhide HNP)) ?_)
        refine (unhide HLO _).mono ?_
        rintro e W3 ⟨rfl, hb3⟩
        have HNP3 := hide ((unhide HNP).bel hb3)
        have HW3 := hide (bc (unhide HW2) hb3)
        have HR3 := hide (own_bel (unhide HR2) hb3)
        clear hb3 hlk hc1
        cases hq : fE p.2 ft0
        · rw [hq] at hdn
          have HTK2 : Hid ((B.take (i + 1)).filterMap (dnB f) = (B.take i).filterMap (dnB f) ++ [p.2]) := hide (by rw [unhide HTK, hdn]; rfl)
          clear hdn hq
          go_wp2_with (first
            | refine wpl_loadAt rfl 57 (.tmp 35) rfl _ rfl _ (unhide HLG _ _ (unhide HNP3)) ?_
            | (at_builtin; refine unhide ?_))
          refine hide ?_
          refine wpList_append_own _ rfl _ _ 27 rfl w.heap.size 57 iF _ 15 144 Try.underlying27 hi hx0 hx1 hx2 rfl (by decide) _ m _ rfl (own_bel (unhide HR3) (ba (Below.refl _ _) _)) _ 1 1 (ftc p.2) rfl rfl (news_F (unhide HG) _ rfl) (ftc_one p.2) (by unfold maxLen; omega) (by omega) (Nat.le_trans (unhide HW3).size (by simp)) ?_
          intro v' w1 hown' hgrow _
          have R := hide (own_ft (Below.alloc (Below.refl w.heap.size _) (unhide HW3).size _) (Nat.le_trans (unhide HW3).size (by simp)) (unhide HR3) hown' hgrow)
          clear hown' hgrow
          go_wp2_with fail
          go_roundw
          case rel => exact ⟨i + 1, m + 1, by simp, h, by omega, by rw [unhide HTK2, List.length_append, unhide HLN]; rfl, by rw [unhide HTK2]; exact (unhide R).1, (unhide HW3).trans (unhide R).2⟩
          case measure => simp only [intOf]; omega
        · rw [hq] at hdn
          have HTK2 : Hid ((B.take (i + 1)).filterMap (dnB f) = (B.take i).filterMap (dnB f)) := hide (by rw [unhide HTK, hdn]; simp)
          clear hdn hq
          go_wp2_with fail
          go_roundw
          case rel => exact ⟨i + 1, m, by simp, h, by omega, by rw [unhide HTK2, unhide HLN], by rw [unhide HTK2]; exact unhide HR3, unhide HW3⟩
          case measure => simp only [intOf]; omega
    · have i1 : ¬ (i : Int) < (n1 : Int) := by omega
      have iz : decide ((i : Int) < (n1 : Int)) = false := decide_eq_false i1
      have HB : Hid ((B.take i).filterMap (dnB f) = B.filterMap (dnB f)) := hide (by rw [List.take_of_length_le (by rw [unhide HL1]; omega)])
      have HRB := hide (unhide HR)
      have HLB := hide (unhide HLN)
      rw [unhide HB] at HRB HLB
      have hmn : m ≤ 4096 := by omega
      clear HR HLN HB
      go_wp2_with fail
      go_loopw [7, 42] (fun v s W => ∃ i q : Nat, s = .int .i64 (i : Int) ∧ i ≤ n2 ∧ q ≤ m + i ∧ m + ((L.take i).filter (dnL f)).length = q ∧ W.ownsRow w.heap.size 57 15 v q (flatG ftc (B.filterMap (dnB f) ++ (L.take i).filter (dnL f))) ∧ Below w.heap.size w W) (fun _ s _ => n2 - (intOf s).toNat)
      case atStart => exact ⟨0, m, rfl, Nat.zero_le _, Nat.le_refl _, rfl, by simpa using unhide HRB, unhide HW⟩
      case round =>
        obtain ⟨i, q, rfl, hi1, hmi, hlen, hrow, hw⟩ := hrel
        have HR := hide hrow
        have HW := hide hw
        have HLN := hide hlen
        obtain ⟨ug, cg, rfl, _⟩ := own_form hrow
        clear hrow hw hlen
        by_cases h : i < n2
        · have i1 : (i : Int) < (n2 : Int) := by omega
          have i0 : (0 : Int) ≤ (i : Int) := Int.natCast_nonneg _
          have iz : decide ((i : Int) < (n2 : Int)) = true := decide_eq_true i1
          obtain ⟨x, hx⟩ := get_some (unhide HL2) h
          obtain ⟨F, hF⟩ := fl_ex x
          obtain ⟨rfl, hpw, hld⟩ := SlG.load hF ((unhide H2).bel (unhide HW)).at_ hx
          have LD := hide hld
          have HI := hide hF.info
          have HO := hide hF.one
          have HF := hide hF
          have hfold := fold_F hF
          have hsz := hF.size
          have hns := (unhide H2).size x (List.mem_of_getElem? hx)
          have HNS := hide hns
          have HTK := hide (filter_take (dnL f) hx)
          have HLF := hide (fun g W (h : ab W g 57 F) => hF.load0 h)
          have cF0 : F[0]'(by omega) = .string x.nm := by
            have c0 : F[0]? = some (.string x.nm) := by rw [← Array.getElem?_toList, hF.l]; rfl
            rw [Array.getElem?_eq_getElem (by omega)] at c0
            exact Option.some.inj c0
          have HN := hide (ab_new wr 57 F _ rfl)
          have HWN := hide (ba (unhide HW) (.cells F 57))
          have HMN := hide ((unhide HM).bel (unhide HWN))
          have HRN := hide (own_bel (unhide HR) (ba (Below.refl _ _) (.cells F 57)))
          have HLA := hide (fun W (h : Below w.heap.size w W) => lacks_any b nm f x.nm W ((unhide HM).bel h) (unhide HNS))
          clear hld hx hF hns
          go_wp2_with (first | refine wpl_loadAt rfl 57 (.tmp 44) rfl _ rfl _ (unhide LD) ?_ | refine wpl_putNew rfl 57 _ _ rfl wr _ F 57 rfl rfl (unhide HI) (by rw [hsz]; rfl) (unhide HO) ?_)
          refine (unhide HLA _ (unhide HWN)).mono ?_
          rintro e W1 ⟨rfl, hb1⟩
          have HN1 := hide ((unhide HN).bel hb1)
          have HW1 := hide (bc (unhide HWN) hb1)
          have HM1 := hide ((unhide HMN).bel hb1)
          have HR1 := hide (own_bel (unhide HRN) hb1)
          have hc1 : W1.cell? ⟨wr.heap.size, 0, none⟩ = some (.string x.nm) := (unhide HN1).cell (by rw [(unhide HF).l]; rfl)
          clear hb1 cF0
          have hdn : dnL f x = match f x.nm with | none => false | some p => fE p.1 ft0 := rfl
          have HLK := hide ((unhide HM1).get und61 x.nm (unhide HNS))
          cases hfx : f x.nm with
          | none =>
            rw [hfx] at hdn
            have HTK2 : Hid ((L.take (i + 1)).filter (dnL f) = (L.take i).filter (dnL f)) := hide (by rw [unhide HTK, hdn]; simp)
            clear hdn hfx
            go_wp2_with fail
            go_roundw
            case rel => exact ⟨i + 1, q, by simp, h, by omega, by rw [unhide HTK2, unhide HLN], by rw [unhide HTK2]; exact unhide HR1, unhide HW1⟩
            case measure => simp only [intOf]; omega
          | some p =>
            rw [hfx] at hdn
            rw [hfx] at HLK
            simp only [Option.getD_some] at HLK
            simp only at hdn
            obtain ⟨P, hP⟩ := bl_ex p
            have hlk := unhide HLK
            rw [hP.v] at hlk
            have HLO := hide (fun W => came_any p W)
            rw [hP.v] at HLO
            clear hfx hP HLK
            go_wp2_with fail
            refine (unhide HLO _).mono ?_
            rintro e W3 ⟨rfl, hb3⟩
            have HN3 := hide ((unhide HN1).bel hb3)
            have HW3 := hide (bc (unhide HW1) hb3)
            have HR3 := hide (own_bel (unhide HR1) hb3)
            clear hb3 hlk hc1
            cases hq : fE p.1 ft0
            · rw [hq] at hdn
              have HTK2 : Hid ((L.take (i + 1)).filter (dnL f) = (L.take i).filter (dnL f)) := hide (by rw [unhide HTK, hdn]; simp)
              clear hdn hq
              go_wp2_with fail
              go_roundw
              case rel => exact ⟨i + 1, q, by simp, h, by omega, by rw [unhide HTK2, unhide HLN], by rw [unhide HTK2]; exact unhide HR3, unhide HW3⟩
              case measure => simp only [intOf]; omega
            · rw [hq] at hdn
              have HTK2 : Hid ((L.take (i + 1)).filter (dnL f) = (L.take i).filter (dnL f) ++ [x]) := hide (by rw [unhide HTK, hdn]; simp)
              clear hdn hq
              go_wp2_with (first
                | refine wpl_loadAt rfl 57 (.tmp 12) rfl _ rfl _ (unhide HLF _ _ (unhide HN3)) ?_
                | (at_builtin; refine unhide ?_))
              refine hide ?_
              refine wpList_append_own _ rfl _ _ 27 rfl w.heap.size 57 iF _ 15 144 Try.underlying27 hi hx0 hx1 hx2 rfl (by decide) _ q _ rfl (own_bel (unhide HR3) (ba (Below.refl _ _) _)) _ 1 1 (ftc x) rfl rfl (news_F (unhide HF) _ rfl) (ftc_one x) (by unfold maxLen; omega) (by omega) (Nat.le_trans (unhide HW3).size (by simp)) ?_
              intro v' w1 hown' hgrow _
              have R := hide (own_ft (Below.alloc (Below.refl w.heap.size _) (unhide HW3).size _) (Nat.le_trans (unhide HW3).size (by simp)) (unhide HR3) hown' hgrow)
              clear hown' hgrow
              go_wp2_with fail
              go_roundw
              case rel => exact ⟨i + 1, q + 1, by simp, h, by omega, by rw [unhide HTK2, List.length_append, ← Nat.add_assoc, unhide HLN]; rfl, by rw [unhide HTK2, ← List.append_assoc]; exact (unhide R).1, (unhide HW3).trans (unhide R).2⟩
              case measure => simp only [intOf]; omega
        · have i1 : ¬ (i : Int) < (n2 : Int) := by omega
          have iz : decide ((i : Int) < (n2 : Int)) = false := decide_eq_false i1
          have HE : Hid ((L.take i).filter (dnL f) = L.filter (dnL f)) := hide (by rw [List.take_of_length_le (by rw [unhide HL2]; omega)])
          go_wp2_with fail
          go_ret
          refine ⟨_, rfl, ?_, unhide HW⟩
          have h1 := unhide HR
          have h2 := unhide HLN
          rw [unhide HE] at h1 h2
          unfold dTo
          rw [List.length_append, unhide HLB, h2]
          exact h1
end Go.Proofs.Ytkkmikgeppkhiaa

namespace Go.Proofs.Ytkkmikgeppkhiaa
open Go.ChangeShapes Go.WideShapes Go.ChangeAt Go.RowKit Go.Maps Go.WideMaps Go.ChangeMaps Go.MapKept
open Go.WideElems (Fit)
set_option linter.unusedVariables false
set_option linter.unusedSimpArgs false

/-- a name that lacks is among these -/
def lck (f : ByteArray → Option Two) (ns : List ByteArray) : Bool := ns.any fun s => !(f s).isSome
theorem lck_no {f : ByteArray → Option Two} {ns : List ByteArray} (h : ∀ (j : Nat) (s : ByteArray), ns[j]? = some s → (f s).isSome = true) : lck f ns = false := by
  unfold lck
  rw [List.any_eq_false]
  intro s hs
  obtain ⟨j, hj, rfl⟩ := List.getElem_of_mem hs
  rw [h j _ (List.getElem?_eq_getElem hj)]
  simp
theorem lck_yes {f : ByteArray → Option Two} {ns : List ByteArray} {i : Nat} {s : ByteArray} (h : ns[i]? = some s) (e : (f s).isSome = false) : lck f ns = true := by
  unfold lck
  rw [List.any_eq_true]
  exact ⟨s, List.mem_of_getElem? h, by rw [e]; rfl⟩
set_option maxRecDepth 100000 in
set_option maxHeartbeats 4000000 in
theorem ixL_any (b nm : Nat) (f : ByteArray → Option Two) (u : Option Addr) (n c : Nat) (ns : List ByteArray) (w : World) (hm : Mp w b nm f) (hl : ns.length = n) (hn : n ≤ 1048576) (hu : StAt w u ns) (hs : ∀ s ∈ ns, s.size ≤ maxLen) :
    Calls Try.prog 67 #[.slice u n c, .func (.func 48) #[.map (some b)] #[]] w fun e w' => (∃ r : Int, e = .returned (.int .i64 r) ∧ (lck f ns = decide (0 ≤ r))) ∧ Below w.heap.size w w' := by
  have HU := hide (fun W (hW : Below w.heap.size w W) => hu.bel hW)
  have HL := hide hl
  have HK := hide (fun s (hs' : s ∈ ns) W (hW : Below w.heap.size w W) => lacks_any b nm f s W (hm.bel hW) (hs s hs'))
  have n0 : (0 : Int) ≤ (n : Int) := Int.natCast_nonneg _
  clear hu hl hs hm
  go_enter Try.func67, Try.ntmps67
  go_wp2_with fail
  go_loopw [5, 8] (fun _ s W => ∃ i : Nat, s = .int .i64 (i : Int) ∧ i ≤ n ∧ (∀ (j : Nat) (s : ByteArray), j < i → ns[j]? = some s → (f s).isSome = true) ∧ Below w.heap.size w W) (fun _ s _ => n - (intOf s).toNat)
  case atStart => exact ⟨0, rfl, Nat.zero_le _, fun j s hj => by omega, Below.refl _ _⟩
  case round =>
    obtain ⟨i, rfl, hi, ha, hb⟩ := hrel
    have HA := hide ha
    have HB := hide hb
    clear ha
    by_cases h : i < n
    · have i1 : (i : Int) < (n : Int) := by omega
      have i0 : (0 : Int) ≤ (i : Int) := Int.natCast_nonneg _
      have iz : decide ((i : Int) < (n : Int)) = true := decide_eq_true i1
      obtain ⟨s, hx⟩ := get_some (unhide HL) h
      have hne : ns ≠ [] := by intro e; subst e; cases hx
      obtain ⟨g, o, rfl, hgl, hc⟩ := (unhide HU _ hb) hne
      have k0 := hc i s hx
      have HC := hide (unhide HK s (List.mem_of_getElem? hx) _ hb)
      have HX := hide hx
      clear hx hc hne hb
      cases hq : (f s).isSome
      · rw [hq] at HC
        have HQ := hide hq
        clear hq
        go_wp2_with fail
        refine (unhide HC).mono ?_
        rintro e W2 ⟨rfl, hb2⟩
        have HB2 := hide (bc (unhide HB) hb2)
        clear hb2
        go_wp2_with fail
        go_ret
        refine ⟨⟨_, rfl, ?_⟩, unhide HB2⟩
        rw [lck_yes (unhide HX) (unhide HQ)]
        simp
      · rw [hq] at HC
        have HQ := hide hq
        clear hq
        go_wp2_with fail
        refine (unhide HC).mono ?_
        rintro e W2 ⟨rfl, hb2⟩
        have HB2 := hide (bc (unhide HB) hb2)
        clear hb2
        go_wp2_with fail
        go_roundw
        case rel =>
          refine ⟨i + 1, by simp, h, ?_, unhide HB2⟩
          intro j t hj ht
          by_cases e : j = i
          · subst e
            rw [unhide HX] at ht
            cases ht
            exact unhide HQ
          · exact unhide HA j t (by omega) ht
        case measure => simp only [intOf]; omega
    · have i1 : ¬ (i : Int) < (n : Int) := by omega
      have iz : decide ((i : Int) < (n : Int)) = false := decide_eq_false i1
      clear hb
      go_wp2_with fail
      go_ret
      refine ⟨⟨_, rfl, ?_⟩, unhide HB⟩
      rw [lck_no fun j s hj => unhide HA j s (by have := (List.getElem?_eq_some_iff.1 hj).1; have := unhide HL; omega) hj]
      simp
theorem hasL_any (b nm : Nat) (f : ByteArray → Option Two) (u : Option Addr) (n c : Nat) (ns : List ByteArray) (w : World) (hm : Mp w b nm f) (hl : ns.length = n) (hn : n ≤ 1048576) (hu : StAt w u ns) (hs : ∀ s ∈ ns, s.size ≤ maxLen) :
    Calls Try.prog 47 #[.slice u n c, .func (.func 48) #[.map (some b)] #[]] w fun e w' => e = .returned (.bool (lck f ns)) ∧ Below w.heap.size w w' := by
  have HI := hide (ixL_any b nm f u n c ns w hm hl hn hu hs)
  clear hm hl hu hs
  go_enter Try.func47, Try.ntmps47
  go_wp2_with fail
  refine (unhide HI).mono ?_
  rintro e W1 ⟨⟨r, rfl, hr⟩, hb⟩
  have HR := hide hr
  have HB := hide hb
  clear hr hb
  go_wp2_with fail
  go_ret
  refine ⟨?_, unhide HB⟩
  rw [unhide HR]
  try rfl
theorem Mp.clr {w : World} {b n : Nat} {f : ByteArray → Option Two} (h : Mp w b n f) (ty : TypeId) : ∃ w', (Builtin.clear_ #[61] ty #[.map (some b)]).run Try.prog w = .ok (.tuple #[]) w' ∧ Mp w' b 0 (fun _ => none) ∧ w.mapTurned w' b := by
  obtain ⟨D, ⟨es, clock, hb, F, hs, hD⟩, hd⟩ := h
  refine ⟨setBlock w b (.map #[] clock), ?_, ⟨.map [], ⟨#[], clock, heap_setBlock_same hb _, ⟨by simp, stamped_empty clock, by simp⟩, Nat.le_refl _, rfl⟩, Dat.empty⟩, ⟨es, clock, #[], clock, hb, rfl⟩⟩
  have h1 : (setObj b (.map #[] clock)).run Try.prog w = .ok () (setBlock w b (.map #[] clock)) := run_setObj_map _ hb
  simp [Builtin.clear_, run_underlying und61, MapKept.run_getObj_map hb, h1, Result.andThen]
/-- another map's entries put in, but for those still to come -/
def cpy (f g : ByteArray → Option Two) (left : ByteArray → Bool) (s : ByteArray) : Option Two := if (g s).isSome && !left s then g s else f s
theorem cpy_start (f g : ByteArray → Option Two) (s : ByteArray) : f s = cpy f g (fun s => (g s).isSome) s := by unfold cpy; cases e : (g s).isSome <;> simp [e]
theorem cpy_step {f g : ByteArray → Option Two} {left : ByteArray → Bool} {s : ByteArray} (h : left s = true) {p : Two} (hg : g s = some p) (t : ByteArray) : up (cpy f g left) s p t = cpy f g (fun t => left t && !sEq s t) t := by
  unfold up cpy
  cases q : sEq s t with
  | true => rw [← sEq_iff.1 q]; simp [hg, sEq_refl]
  | false => simp [q]
theorem cpy_end {g : ByteArray → Option Two} {left : ByteArray → Bool} (h : ∀ s, left s = false) (s : ByteArray) : cpy (fun _ => none) g left s = g s := by
  unfold cpy
  cases e : g s <;> simp [h s, e]
/-- a range begun, with how many there are at most -/
theorem wpl_rangeN (w : World) {ops : Array Oper} {rest : List Oper} {o : Oper} {a : Act} {Q : Exit → Act → World → Prop} (hg : o.guard = none) (m : Operand) (t : TypeId) (hop : o.op = Op.range t m) (ht : Try.prog.underlying t = some (.map 9 68)) (b n : Nat) (f : ByteArray → Option Two)
    (hm : a.eval m = .map (some b)) (h : Mp w b n f)
    (hK : ∀ w' cnt, cnt ≤ n → Rg w' b w.heap.size n f (fun s => (f s).isSome) cnt → w.grownBy w' none → w'.heap.size = w.heap.size + 1 → wpList Try.prog ops Q rest (a.put o.dst (.pointer (some ⟨w.heap.size, 0, none⟩))) w') :
    wpList Try.prog ops Q (o :: rest) a w := by
  obtain ⟨D, h, hd⟩ := h
  refine wpList_range_own w hg m t hop 9 68 lawK ht Rb b n D hm h ?_
  intro w' h1 h2 h3
  exact hK w' _ h.size_le ⟨D, _, h1, hd, fun s => (hd s).1⟩ h2 h3
set_option maxRecDepth 100000 in
set_option maxHeartbeats 4000000 in
theorem copy_any (b1 b2 n1 n2 : Nat) (g : ByteArray → Option Two) (w : World) (h1 : Mp w b1 n1 (fun _ => none)) (h2 : Mp w b2 n2 g) (hne : b1 ≠ b2) (hn1 : n1 ≤ 10000) (hn2 : n2 ≤ 10000) :
    Calls Try.prog 68 #[.map (some b1), .map (some b2)] w fun e w' => e = .returned (.tuple #[]) ∧ Mp w' b1 (n1 + n2) g ∧ w.grownBy w' (some b1) := by
  have H1 := hide h1
  have H2 := hide h2
  have l1 := h1.lt
  clear h1 h2
  go_enter Try.func68, Try.ntmps68
  go_wp2_with (refine wpl_rangeN _ rfl _ 61 rfl und61 b2 n2 g rfl (unhide H2) ?_; intro w0 cnt0 hcn hrg0 hg0 hs0)
  have R0 := hide hrg0
  have M0 := hide (gb_mp (unhide H1) hg0 (by simp))
  have G0 := hide (hg0.but (some b1))
  clear hrg0 hg0
  go_frame
  go_loopw [4, 5] (fun _ _ W => ∃ left cnt, cnt ≤ cnt0 ∧ Rg W b2 w.heap.size n2 g left cnt ∧ Mp W b1 (n1 + (cnt0 - cnt)) (cpy (fun _ => none) g left) ∧ w.grownBy W (some b1)) (fun _ _ W => W.rangeLeft b2 w.heap.size)
  case atStart => exact ⟨_, cnt0, Nat.le_refl _, unhide R0, ((unhide M0).mono (by omega)).congr (cpy_start _ g), unhide G0⟩
  case round =>
    obtain ⟨left, cnt, hcc, hrg, hm, hg⟩ := hrel
    have HR := hide hrg
    have HM := hide hm
    have HG := hide hg
    clear hrg hm hg
    go_wp2_with (first
      | (at_next; refine wpl_nextB _ rfl _ rfl b2 w.heap.size n2 g left cnt rfl (unhide HR) ?_ ?_)
      | go_in)
    · intro hl0
      have HL0 := hide hl0
      clear hl0
      go_wp2_with fail
      go_end0
      exact ⟨rfl, ((unhide HM).mono (by omega)).congr (cpy_end (unhide HL0)), unhide HG⟩
    · intro s p1 p2 w1 cnt1 hs hls hf hrg1 hlt hg1 hs1 hen
      have HR1 := hide hrg1
      have HM1 := hide (gb_mp (unhide HM) hg1 (by simp; omega))
      have HG1 := hide (gb_trans (unhide HG) hg1 (fun j hj => by cases hj; exact Or.inl (Nat.le_refl _)))
      have HST := hide (fun t => cpy_step (f := fun _ => none) hls hf t)
      have HLT := hide hlt
      obtain ⟨A, hA⟩ := bl_ex (p1, p2)
      have HA := hide hA
      rw [hA.v] at hen
      have HI := hide hA.info
      have HO := hide hA.one
      have hsz := hA.size
      have HLA := hide (fun W (h : ab W w1.heap.size 68 A) => hA.load h)
      have HN := hide (ab_new w1 68 A _ rfl)
      have HR2 := hide ((unhide HR1).bel (ba (Below.refl _ _) (.cells A 68)))
      have HM2 := hide ((unhide HM1).bel (ba (Below.refl _ _) (.cells A 68)))
      have HG2 := hide (gb_trans (unhide HG1) (gb_alloc w1 (.cells A 68) none) (fun j hj => by cases hj))
      clear hrg1 hg1 hls hf hA hlt hs1
      go_wp2_with (first
        | refine wpl_putNew rfl 68 _ _ rfl w1 _ A 68 rfl rfl (unhide HI) (by rw [hsz]; rfl) (unhide HO) ?_
        | refine wpl_loadAt rfl 68 (.tmp 5) rfl _ rfl _ (unhide HLA _ (unhide HN)) ?_
        | (refine wpl_putA rfl (.tmp 13) (.tmp 14) (.tmp 15) 61 rfl und61 b1 _ _ rfl (unhide HM2) (by unfold maxLen; omega) s (p1, p2) A (unhide HA) rfl rfl hs ?_; intro w2 hm2 ht2; have HM3 := hide hm2; have HT2 := hide ht2.grown; clear hm2 ht2))
      have HR3 := hide (gb_rg (unhide HR2) (unhide HT2) (by simp; omega) (by simp; omega))
      have HG3 := hide (gb_trans (unhide HG2) (unhide HT2) (fun j hj => by cases hj; exact Or.inr rfl))
      try go_frame
      go_roundw
      case rel => exact ⟨_, cnt1, by have := unhide HLT; omega, unhide HR3, ((unhide HM3).mono (by have := unhide HLT; omega)).congr (unhide HST), unhide HG3⟩
      case measure => rw [(unhide HR3).left_eq, (unhide HR).left_eq]; exact unhide HLT
end Go.Proofs.Ytkkmikgeppkhiaa

namespace Go.Proofs.Ytkkmikgeppkhiaa
open Go.ChangeShapes Go.WideShapes Go.ChangeAt Go.RowKit Go.Maps Go.WideMaps
set_option linter.unusedVariables false
set_option linter.unusedSimpArgs false

def kp (f : ByteArray → Option Two) (ns : List ByteArray) (s : ByteArray) : Option Two := if hasT ns s = true then some ((f s).getD p0) else none
theorem kp_nil (f : ByteArray → Option Two) (s : ByteArray) : none = kp f [] s := by simp [kp, hasT]
theorem hasT_app (a : List ByteArray) (s t : ByteArray) : hasT (a ++ [s]) t = (hasT a t || sEq s t) := by simp [hasT]
theorem kp_step (f : ByteArray → Option Two) {ns : List ByteArray} {i : Nat} {s : ByteArray} (h : ns[i]? = some s) (t : ByteArray) : up (kp f (ns.take i)) s ((f s).getD p0) t = kp f (ns.take (i + 1)) t := by
  unfold up kp
  rw [List.take_add_one, h, Option.toList_some, hasT_app]
  cases q : sEq s t with
  | true => rw [sEq_iff.1 q]; simp
  | false => simp
/-- a map cleared -/
theorem wpl_clearB (w : World) {ops : Array Oper} {rest : List Oper} {o : Oper} {a : Act} {Q : Exit → Act → World → Prop} (hg : o.guard = none) (m : Operand) (hop : o.op = Op.call { callee := Callee.builtin Builtin.clear, args := #[m], argTypes := #[61] })
    (b n : Nat) (f : ByteArray → Option Two) (hm : a.eval m = .map (some b)) (h : Mp w b n f)
    (hK : ∀ w', Mp w' b 0 (fun _ => none) → w.mapTurned w' b → wpList Try.prog ops Q rest (a.put o.dst (.tuple #[])) w') :
    wpList Try.prog ops Q (o :: rest) a w := by
  refine wpList_plain hg fun K' hK' => ?_
  obtain ⟨w', hrun, r1, r2⟩ := h.clr o.type
  unfold Oper.wp
  simp [execOp, hop, resolve, invoke, builtin, hm, hrun, Result.andThen]
  exact hK' _ _ (hK w' r1 r2)
set_option maxRecDepth 100000 in
set_option maxHeartbeats 4000000 in
theorem keep_any (b nb : Nat) (f : ByteArray → Option Two) (u : Option Addr) (n c : Nat) (ns : List ByteArray) (w : World) (hm : Mp w b nb f) (hl : ns.length = n) (hn : n ≤ 4096) (hu : StAt w u ns) (hs : ∀ s ∈ ns, s.size ≤ maxLen) :
    Calls Try.prog 49 #[.map (some b), .slice u n c] w fun e w' => e = .returned (.tuple #[]) ∧ Mp w' b n (kp f ns) ∧ w.grownBy w' (some b) := by
  have HU := hide (fun W (hW : Below w.heap.size w W) => hu.bel hW)
  have HL := hide hl
  have HS := hide hs
  have HM := hide hm
  have hbl := hm.lt
  clear hu hl hs hm
  have hmm := @run_makeMap Try.prog
  go_enter Try.func49, Try.ntmps49
  go_wp2_with fail
  go_loopw [6, 10] (fun _ s W => ∃ i : Nat, s = .int .i64 (i : Int) ∧ i ≤ n ∧ Mp W w.heap.size i (kp f (ns.take i)) ∧ Below w.heap.size w W) (fun _ s _ => n - (intOf s).toNat)
  case atStart => exact ⟨0, rfl, Nat.zero_le _, (Mp.made w).congr (kp_nil f), ba (Below.refl _ _) _⟩
  case round =>
    obtain ⟨i, rfl, hi, hmi, hb⟩ := hrel
    have HMI := hide hmi
    have HB := hide hb
    have hml := hmi.lt
    clear hmi
    by_cases h : i < n
    · have i1 : (i : Int) < (n : Int) := by omega
      have i0 : (0 : Int) ≤ (i : Int) := Int.natCast_nonneg _
      have iz : decide ((i : Int) < (n : Int)) = true := decide_eq_true i1
      obtain ⟨s, hx⟩ := get_some (unhide HL) h
      have hne : ns ≠ [] := by intro e; subst e; cases hx
      obtain ⟨g, o, rfl, hgl, hc⟩ := (unhide HU _ hb) hne
      have k0 := hc i s hx
      have hss := unhide HS s (List.mem_of_getElem? hx)
      have HSS := hide hss
      have HST := hide (fun t => kp_step f hx t)
      obtain ⟨A, hA⟩ := bl_ex ((f s).getD p0)
      have HA := hide hA
      have hlk := ((unhide HM).bel hb).get und61 s hss
      rw [hA.v] at hlk
      clear hx hc hne hss hA hb
      go_wp2_with (first
        | (refine wpl_putA rfl (.tmp 14) (.tmp 15) (.tmp 18) 61 rfl und61 w.heap.size i _ rfl (unhide HMI) (by unfold maxLen; omega) s ((f s).getD p0) A (unhide HA) rfl rfl (unhide HSS) ?_; intro w2 hm2 ht2; have HM2 := hide hm2; have HT2 := hide ht2.grown; clear hm2 ht2))
      try go_frame
      go_roundw
      case rel => exact ⟨i + 1, by simp, h, (unhide HM2).congr (unhide HST), Below.grown (unhide HB) (unhide HT2) (unhide HB).size (fun j hj => by cases hj; exact Nat.le_refl _)⟩
      case measure => simp only [intOf]; omega
    · have i1 : ¬ (i : Int) < (n : Int) := by omega
      have iz : decide ((i : Int) < (n : Int)) = false := decide_eq_false i1
      have HE : Hid (ns.take i = ns) := hide (List.take_of_length_le (by rw [unhide HL]; omega))
      have HMB := hide ((unhide HM).bel hb)
      clear hb
      rw [unhide HE] at HMI
      go_wp2_with (refine wpl_clearB _ rfl _ rfl b nb f rfl (unhide HMB) ?_; intro w2 hm2 ht2)
      have HK2 := hide (gb_mp (unhide HMI) ht2.grown (by simp; omega))
      have HG2 := hide (gb_trans (gb_of (unhide HB) (some b)) ht2.grown (fun j hj => by cases hj; exact Or.inr rfl))
      have HCP := hide (copy_any b w.heap.size 0 i (kp f ns) w2 hm2 (unhide HK2) (by omega) (by omega) (by omega))
      clear hm2 ht2
      try go_frame
      go_wp2_with fail
      refine (unhide HCP).mono ?_
      rintro e W3 ⟨rfl, hm3, hg3⟩
      have HM3 := hide hm3
      have HG3 := hide (gb_trans (unhide HG2) hg3 (fun j hj => by cases hj; exact Or.inr rfl))
      clear hm3 hg3
      go_wp2_with fail
      go_end0
      exact ⟨rfl, (unhide HM3).mono (by omega), unhide HG3⟩
end Go.Proofs.Ytkkmikgeppkhiaa

namespace Go.Proofs.Ytkkmikgeppkhiaa
open Go.ChangeShapes Go.WideShapes Go.ChangeAt Go.RowKit
set_option linter.unusedVariables false
set_option linter.unusedSimpArgs false

def apB (L : List Ft) (ns : List ByteArray) (x : Ft) : Option Ft := if hasT ns x.nm = true then gtF L x.nm else some x
def apL (B : List Ft) (ns : List ByteArray) (x : Ft) : Bool := hasT ns x.nm && (gtF B x.nm).isNone
/-- the list of what is applied -/
def apl (B L : List Ft) (ns : List ByteArray) : List Ft := B.filterMap (apB L ns) ++ L.filter (apL B ns)
/-- an answer of Apply -/
def ApAns (B L : List Ft) (ns : List ByteArray) (out : List Ft) (c : Int) : Prop :=
  ((4096 < B.length ∨ 4096 < L.length ∨ 4096 < ns.length) ∧ c = 2 ∧ out = []) ∨
  (B.length ≤ 4096 ∧ L.length ≤ 4096 ∧ ns.length ≤ 4096 ∧ ∃ d, Vg [B, L] d ∧ ((d ≠ 0 ∧ c = d ∧ out = []) ∨ (d = 0 ∧
    (((∃ s ∈ ns, gtF B s = none ∧ gtF L s = none) ∧ c = 6 ∧ out = []) ∨ ((∀ s ∈ ns, gtF B s ≠ none ∨ gtF L s ≠ none) ∧ ∃ k ab, Chk (apl B L ns) k ab ∧ ((k ≠ 0 ∧ c = 13 ∧ out = []) ∨ (k = 0 ∧ c = 0 ∧ out = apl B L ns)))))))
theorem ApAns.uniq {B L : List Ft} {ns : List ByteArray} {o o' : List Ft} {c c' : Int} (h : ApAns B L ns o c) (k : ApAns B L ns o' c') : o = o' ∧ c = c' := by
  rcases h with ⟨h1, h2, h3⟩ | ⟨h1, h2, h3, d, hd, h4⟩
  · rcases k with ⟨_, k2, k3⟩ | ⟨k1, k2, k3, _⟩
    · exact ⟨by rw [h3, k3], by rw [h2, k2]⟩
    · omega
  · rcases k with ⟨k1, _⟩ | ⟨_, _, _, d', hd', k4⟩
    · omega
    · have e := hd.uniq hd'
      subst e
      rcases h4 with ⟨h4, h5, h6⟩ | ⟨h4, h5⟩
      · rcases k4 with ⟨_, k5, k6⟩ | ⟨k4, _⟩
        · exact ⟨by rw [h6, k6], by rw [h5, k5]⟩
        · exact (h4 k4).elim
      · rcases k4 with ⟨k4, _⟩ | ⟨_, k5⟩
        · exact (k4 h4).elim
        · rcases h5 with ⟨⟨s, hs, a1, a2⟩, h6, h7⟩ | ⟨h6, k, ab, hk, h7⟩
          · rcases k5 with ⟨_, k6, k7⟩ | ⟨k6, _⟩
            · exact ⟨by rw [h7, k7], by rw [h6, k6]⟩
            · rcases k6 s hs with q | q
              · exact (q a1).elim
              · exact (q a2).elim
          · rcases k5 with ⟨⟨s, hs, a1, a2⟩, _⟩ | ⟨_, k', ab', hk', k7⟩
            · rcases h6 s hs with q | q
              · exact (q a1).elim
              · exact (q a2).elim
            · have e := (hk.uniq hk').1
              subst e
              rcases h7 with ⟨h7, h8, h9⟩ | ⟨h7, h8, h9⟩
              · rcases k7 with ⟨_, k8, k9⟩ | ⟨k7, _⟩
                · exact ⟨by rw [h9, k9], by rw [h8, k8]⟩
                · exact (h7 k7).elim
              · rcases k7 with ⟨k7, _⟩ | ⟨_, k8, k9⟩
                · exact (k7 h7).elim
                · exact ⟨by rw [h9, k9], by rw [h8, k8]⟩
theorem ApAns.len {B L : List Ft} {ns : List ByteArray} {o : List Ft} {c : Int} (h : ApAns B L ns o c) : o.length ≤ 10000 := by
  have aux : ∀ x : List Ft, x = [] → x.length ≤ 10000 := fun x e => by rw [e]; simp
  rcases h with ⟨_, _, h3⟩ | ⟨h1, h2, h3, d, hd, h4⟩
  · exact aux _ h3
  · rcases h4 with ⟨_, _, h6⟩ | ⟨h4, h5⟩
    · exact aux _ h6
    · rcases h5 with ⟨_, _, h7⟩ | ⟨_, k, ab, hk, h7⟩
      · exact aux _ h7
      · rcases h7 with ⟨_, _, h9⟩ | ⟨_, _, h9⟩
        · exact aux _ h9
        · rw [h9]
          unfold apl
          have a1 := List.length_filterMap_le (apB L ns) B
          have a2 := List.length_filter_le (apL B ns) L
          rw [List.length_append]
          omega
theorem pr_isSome (B L : List Ft) (s : ByteArray) : (pr B L s).isSome = ((gtF B s).isSome || (gtF L s).isSome) := two_isSome _ _
theorem pr_getD (B L : List Ft) (s : ByteArray) : (pr B L s).getD p0 = ((gtF B s).getD ft0, (gtF L s).getD ft0) := by
  unfold pr two
  cases gtF B s <;> cases gtF L s <;> rfl
theorem kp_pr (B L : List Ft) (ns : List ByteArray) (s : ByteArray) : kp (pr B L) ns s = if hasT ns s = true then some ((gtF B s).getD ft0, (gtF L s).getD ft0) else none := by
  unfold kp
  rw [pr_getD]
theorem fm_congr {l : List Ft} {f g : Ft → Option Ft} (h : ∀ x ∈ l, f x = g x) : l.filterMap f = l.filterMap g := by
  induction l with
  | nil => rfl
  | cons a l ih =>
    rw [List.filterMap_cons, List.filterMap_cons, h a (by simp), ih fun x hx => h x (by simp [hx])]
/-- what the program's changes do is what is applied -/
theorem dTo_apl {B L : List Ft} (hB : ∀ f ∈ B, f ≠ ft0) (hL : ∀ f ∈ L, f ≠ ft0) (ns : List ByteArray) : dTo (kp (pr B L) ns) B L = apl B L ns := by
  unfold dTo apl
  congr 1
  · refine fm_congr fun x hx => ?_
    unfold dnB apB
    rw [kp_pr]
    cases hasT ns x.nm with
    | false => rfl
    | true =>
      simp only [if_true]
      cases e : gtF L x.nm with
      | none => simp [fE_refl]
      | some y =>
        have hy := hL y (gt_mem e).1
        simp [fE_ne hy]
  · refine List.filter_congr fun x hx => ?_
    unfold dnL apL
    rw [kp_pr]
    cases hasT ns x.nm with
    | false => rfl
    | true =>
      simp only [if_true, Bool.true_and]
      cases e : gtF B x.nm with
      | none => simp [fE_refl]
      | some y =>
        have hy := hB y (gt_mem e).1
        simp [fE_ne hy]
theorem lck_pr (B L : List Ft) (ns : List ByteArray) : lck (pr B L) ns = true ↔ ∃ s ∈ ns, gtF B s = none ∧ gtF L s = none := by
  unfold lck
  rw [List.any_eq_true]
  constructor
  · rintro ⟨s, hs, h⟩
    refine ⟨s, hs, ?_⟩
    rw [pr_isSome] at h
    cases e1 : gtF B s <;> cases e2 : gtF L s <;> simp [e1, e2] at h ⊢
  · rintro ⟨s, hs, h1, h2⟩
    exact ⟨s, hs, by rw [pr_isSome, h1, h2]; rfl⟩
theorem lck_pr_no (B L : List Ft) (ns : List ByteArray) (h : lck (pr B L) ns = false) : ∀ s ∈ ns, gtF B s ≠ none ∨ gtF L s ≠ none := by
  intro s hs
  by_cases h1 : gtF B s = none
  · right
    intro h2
    have := (lck_pr B L ns).2 ⟨s, hs, h1, h2⟩
    rw [h] at this
    cases this
  · exact .inl h1
/-- what a call of Apply ends with -/
def ApEnd (B L : List Ft) (ns : List ByteArray) (w : World) (e : Ending) (w' : World) : Prop := (∃ v c out, e = .returned (.tuple #[v, .int .i64 c]) ∧ ApAns B L ns out c ∧ w'.ownsRow w.heap.size 57 15 v out.length (flatG ftc out)) ∧ Below w.heap.size w w'
end Go.Proofs.Ytkkmikgeppkhiaa

namespace Go.Proofs.Ytkkmikgeppkhiaa
open Go.ChangeShapes Go.WideShapes Go.ChangeAt Go.RowKit Go.Maps Go.WideMaps
set_option linter.unusedVariables false
set_option linter.unusedSimpArgs false

theorem apl_mem {B L : List Ft} {ns : List ByteArray} {f : Ft} (h : f ∈ apl B L ns) : f ∈ B ∨ f ∈ L := by
  unfold apl at h
  rcases List.mem_append.1 h with h | h
  · obtain ⟨x, hx, e⟩ := List.mem_filterMap.1 h
    unfold apB at e
    split at e
    · exact .inr (gt_mem e).1
    · cases e; exact .inl hx
  · exact .inr (List.mem_filter.1 h).1
theorem apl_len (B L : List Ft) (ns : List ByteArray) : (apl B L ns).length ≤ B.length + L.length := by
  unfold apl
  have a1 := List.length_filterMap_le (apB L ns) B
  have a2 := List.length_filter_le (apL B ns) L
  rw [List.length_append]
  omega
theorem own_slF {w : World} {B : Nat} {v : Value} {l : List Ft} (h : w.ownsRow B 57 15 v l.length (flatG ftc l)) : ∃ u c p, v = .slice u l.length c ∧ l.length ≤ c ∧ SlG ftc 15 w u p 0 l := by
  obtain ⟨u, c, rfl, hc, _, h9⟩ := own_form h
  by_cases h0 : l = []
  · subst h0
    exact ⟨u, c, 0, rfl, hc, fun h => absurd rfl h⟩
  · obtain ⟨g, rfl, hB, hg, hcc⟩ := h9 (by intro e; exact h0 (List.eq_nil_of_length_eq_zero e))
    exact ⟨_, c, g, rfl, hc, fun _ => ⟨rfl, hg, fun i a ha j v hv => by rw [Nat.zero_add]; exact hcc _ _ (flatG_at ftc_len ha hv)⟩⟩
theorem apEnd_nil {B L : List Ft} {ns : List ByteArray} {w w' : World} {v : Value} {c : Int} (hc : ApAns B L ns [] c) (hv : w'.ownsRow w.heap.size 57 15 v 0 []) (hb : Below w.heap.size w w') : ApEnd B L ns w (.returned (.tuple #[v, .int .i64 c])) w' :=
  ⟨⟨v, c, [], rfl, hc, hv⟩, hb⟩
theorem apAns_code {B L : List Ft} {ns : List ByteArray} {c : Int} (hn : ns.length ≤ 4096) (h : Vc [B, L] c) (h0 : c ≠ 0) : ApAns B L ns [] c := by
  rcases h with ⟨⟨l, hl, h1⟩, rfl⟩ | ⟨h1, h2⟩
  · left
    simp only [List.mem_cons, List.not_mem_nil, or_false] at hl
    rcases hl with rfl | rfl
    · exact ⟨.inl h1, rfl, rfl⟩
    · exact ⟨.inr (.inl h1), rfl, rfl⟩
  · exact .inr ⟨h1 B (by simp), h1 L (by simp), hn, c, h2, .inl ⟨h0, rfl, rfl⟩⟩
set_option maxRecDepth 100000 in
set_option maxHeartbeats 8000000 in
theorem applyP_any (u1 : Option Addr) (p1 o1 n1 c1 : Nat) (B : List Ft) (u2 : Option Addr) (p2 o2 n2 c2 : Nat) (L : List Ft) (u3 : Option Addr) (n3 c3 : Nat) (ns : List ByteArray) (w : World) (hl1 : B.length = n1) (hl2 : L.length = n2) (hl3 : ns.length = n3) (hn3 : n3 ≤ 1048576)
    (h1 : Lok w ⟨u1, p1, o1, c1, B⟩) (h2 : Lok w ⟨u2, p2, o2, c2, L⟩) (h3 : StAt w u3 ns) (hs3 : ∀ s ∈ ns, s.size ≤ maxLen) :
    Calls Try.prog 24 #[.slice u1 n1 c1, .slice u2 n2 c2, .slice u3 n3 c3] w (ApEnd B L ns w) := by
  have HL1 := hide hl1
  have HL2 := hide hl2
  have HL3 := hide hl3
  have H1 := hide h1
  have H2 := hide h2
  have H3 := hide h3
  have HS3 := hide hs3
  clear hl1 hl2 hl3 h1 h2 h3 hs3
  by_cases hlong : 4096 < n3
  · have d1 : decide ((4096 : Int) < (n3 : Int)) = true := decide_eq_true (by omega)
    have d2 : decide ((n3 : Int) > 4096) = true := decide_eq_true (by omega)
    go_enter Try.func24, Try.ntmps24
    go_wp2_with fail
    refine bodyPost_ret (v := .tuple #[.slice none 0 0, .int .i64 2]) (by simp [results, Try.results24, go_sem]; done) rfl ?_
    exact apEnd_nil (.inl ⟨.inr (.inr (by rw [unhide HL3]; exact hlong)), rfl, rfl⟩) (own_nil _ _ _ _) (Below.refl _ _)
  have d1 : decide ((4096 : Int) < (n3 : Int)) = false := decide_eq_false (by omega)
  have d2 : decide ((n3 : Int) > 4096) = false := decide_eq_false (by omega)
  have HN3 : Hid (ns.length ≤ 4096) := hide (by rw [unhide HL3]; omega)
  have HB0 := hide (ba (Below.refl w.heap.size w) (.cells #[.slice u1 n1 c1, .slice u2 n2 c2] 27))
  have HLS : Hid (LsAt (w.alloc (.cells #[.slice u1 n1 c1, .slice u2 n2 c2] 27)) w.heap.size 0 [⟨u1, p1, o1, c1, B⟩, ⟨u2, p2, o2, c2, L⟩]) := hide ⟨by simp, fun i l hi => by
    match i, hi with
    | 0, hi => cases hi; show _ = some (Value.slice u1 B.length c1); rw [unhide HL1]; simp [go_sem]
    | 1, hi => cases hi; show _ = some (Value.slice u2 L.length c2); rw [unhide HL2]; simp [go_sem]⟩
  have HC := hide (codes_any w.heap.size 0 2 2 [⟨u1, p1, o1, c1, B⟩, ⟨u2, p2, o2, c2, L⟩] (w.alloc (.cells #[.slice u1 n1 c1, .slice u2 n2 c2] 27)) rfl (by omega) (by
      intro l hl
      simp only [List.mem_cons, List.not_mem_nil, or_false] at hl
      rcases hl with rfl | rfl
      · exact (unhide H1).bel (ba (Below.refl _ _) _)
      · exact (unhide H2).bel (ba (Below.refl _ _) _)) (unhide HLS))
  rw [fss2] at HC
  clear HLS
  go_enter Try.func24, Try.ntmps24
  go_wp2_with fail
  refine (unhide HC).mono ?_
  rintro e W1 ⟨⟨c, rfl, hvc⟩, hb⟩
  have HV := hide hvc
  have HB1 := hide (bc (unhide HB0) hb)
  clear hvc hb HC
  by_cases hc : c = 0
  rotate_left
  · have c0 : (c != 0) = true := by simpa using hc
    have HC0 := hide hc
    clear hc
    go_wp2_with fail
    refine bodyPost_ret (v := .tuple #[.slice none 0 0, .int .i64 c]) (by simp [results, Try.results24, go_sem]; done) rfl ?_
    exact apEnd_nil (apAns_code (unhide HN3) (unhide HV) (unhide HC0)) (own_nil _ _ _ _) (unhide HB1)
  subst hc
  have hF := (unhide HV).zero
  have hF1 := hF B (by simp)
  have hF2 := hF L (by simp)
  have HF1 := hide hF1
  have HF2 := hide hF2
  have hn1 : n1 ≤ 30 := by rw [← unhide HL1]; exact hF1.len
  have hn2 : n2 ≤ 30 := by rw [← unhide HL2]; exact hF2.len
  have HVG : Hid (Vg [B, L] 0) := hide (by
    rcases unhide HV with ⟨_, h⟩ | ⟨_, h⟩
    · cases h
    · exact h)
  have HLB : Hid (B.length ≤ 4096 ∧ L.length ≤ 4096) := hide ⟨by rw [unhide HL1]; omega, by rw [unhide HL2]; omega⟩
  have HED := hide (allb_any u1 p1 o1 n1 c1 B u2 p2 o2 n2 c2 L W1 (((unhide H1).bel (unhide HB1)).lst (unhide HL1) hF1) (((unhide H2).bel (unhide HB1)).lst (unhide HL2) hF2))
  clear hF hF1 hF2
  go_wp2_with fail
  refine (unhide HED).mono ?_
  rintro e W2 ⟨rfl, hm, hb⟩
  have HM := hide hm
  have HB2 := hide (bc (unhide HB1) hb)
  have hmlt := hm.lt
  have HLK := hide (hasL_any W1.heap.size (n1 + n2) (pr B L) u3 n3 c3 ns W2 hm (unhide HL3) hn3 ((unhide H3).bel (unhide HB2)) (unhide HS3))
  clear hm hb HED
  go_wp2_with fail
  refine (unhide HLK).mono ?_
  rintro e W3 ⟨rfl, hb3⟩
  have HB3 := hide (bc (unhide HB2) hb3)
  have HM3 := hide ((unhide HM).bel hb3)
  clear hb3 HLK
  cases hq : lck (pr B L) ns
  rotate_left
  · have HQ := hide ((lck_pr B L ns).1 hq)
    clear hq
    go_wp2_with fail
    refine bodyPost_ret (v := .tuple #[.slice none 0 0, .int .i64 6]) (by simp [results, Try.results24, go_sem]; done) rfl ?_
    exact apEnd_nil (.inr ⟨(unhide HLB).1, (unhide HLB).2, unhide HN3, 0, unhide HVG, .inr ⟨rfl, .inl ⟨unhide HQ, rfl, rfl⟩⟩⟩) (own_nil _ _ _ _) (unhide HB3)
  have HQ := hide (lck_pr_no B L ns hq)
  clear hq
  have HKP := hide (keep_any W1.heap.size (n1 + n2) (pr B L) u3 n3 c3 ns W3 (unhide HM3) (unhide HL3) (by omega) ((unhide H3).bel (unhide HB3)) (unhide HS3))
  go_wp2_with fail
  refine (unhide HKP).mono ?_
  rintro e W4 ⟨rfl, hm4, hg4⟩
  have HM4 := hide hm4
  have HB4 := hide (Below.grown (unhide HB3) hg4 (unhide HB3).size (fun j hj => by cases hj; exact (unhide HB1).size))
  have HDN := hide (done_any W1.heap.size n3 (kp (pr B L) ns) u1 p1 o1 n1 c1 B u2 p2 o2 n2 c2 L W4 hm4 (((unhide H1).bel (unhide HB4)).lst (unhide HL1) (unhide HF1)) (((unhide H2).bel (unhide HB4)).lst (unhide HL2) (unhide HF2)))
  rw [dTo_apl (fun f hf => (unhide HF1).nm0 hf) (fun f hf => (unhide HF2).nm0 hf) ns] at HDN
  clear hm4 hg4 HKP
  go_wp2_with fail
  refine (unhide HDN).mono ?_
  rintro e W5 ⟨v, rfl, hrow, hb5⟩
  have HB5 := hide (bc (unhide HB4) hb5)
  have HR5 := hide (own_mono hrow (unhide HB4).size)
  obtain ⟨uo, co, po, rfl, hco, hsl⟩ := own_slF hrow
  have hlo := apl_len B L ns
  have HFO := hide (orderOfP_any uo po 0 (apl B L ns).length co (apl B L ns) W5 rfl (by rw [unhide HL1, unhide HL2] at hlo; omega) (by
    intro f hf
    rcases apl_mem hf with h | h
    · exact (unhide H1).size f h
    · exact (unhide H2).size f h) hsl)
  obtain ⟨q, hq⟩ : ∃ q, (apl B L ns).length = q := ⟨_, rfl⟩
  have HQL := hide hq
  rw [hq] at HFO ⊢
  clear hrow hb5 hsl hco hlo hq HDN
  go_wp2_with fail
  refine (unhide HFO).mono ?_
  rintro e W6 ⟨⟨v1, k, v3, ab, rfl, hck, _, _⟩, hb6⟩
  have HCK := hide hck
  have HB6 := hide (bc (unhide HB5) hb6)
  have HR6 := hide (own_bel (unhide HR5) hb6)
  clear hck hb6 HFO
  by_cases hk : k = 0
  rotate_left
  · have k0 : (k != 0) = true := by simpa using hk
    have HK0 := hide hk
    clear hk
    go_wp2_with fail
    refine bodyPost_ret (v := .tuple #[.slice none 0 0, .int .i64 13]) (by simp [results, Try.results24, go_sem]; done) rfl ?_
    exact apEnd_nil (.inr ⟨(unhide HLB).1, (unhide HLB).2, unhide HN3, 0, unhide HVG, .inr ⟨rfl, .inr ⟨unhide HQ, k, ab, unhide HCK, .inl ⟨unhide HK0, rfl, rfl⟩⟩⟩⟩) (own_nil _ _ _ _) (unhide HB6)
  subst hk
  go_wp2_with fail
  refine bodyPost_ret (v := .tuple #[.slice uo q co, .int .i64 0]) (by simp [results, Try.results24, go_sem]; done) rfl ?_
  refine ⟨⟨_, 0, apl B L ns, rfl, .inr ⟨(unhide HLB).1, (unhide HLB).2, unhide HN3, 0, unhide HVG, .inr ⟨rfl, .inr ⟨unhide HQ, 0, ab, unhide HCK, .inr ⟨rfl, rfl, rfl⟩⟩⟩⟩, ?_⟩, unhide HB6⟩
  have := unhide HR6
  rw [unhide HQL] at this ⊢
  exact this
end Go.Proofs.Ytkkmikgeppkhiaa

namespace Go.Proofs.Ytkkmikgeppkhiaa
open Go.ChangeShapes Go.WideShapes Go.ChangeAt Go.RowKit
set_option linter.unusedVariables false
set_option linter.unusedSimpArgs false

theorem row_other {W : World} {g k : Nat} (cs : Array Value) (h : k ≠ g) : (W.setRow g cs).heap[k]? = W.heap[k]? := by
  show (W.heap.modify g _)[k]? = _
  rw [Array.getElem?_modify, if_neg (fun e => h e.symm)]
theorem row_same {W : World} {g t : Nat} {F : Array Value} (h : ab W g t F) (G : Array Value) : ab (W.setRow g G) g t G := by
  show (W.heap.modify g _)[g]? = _
  rw [Array.getElem?_modify, if_pos rfl, h]
  rfl
theorem findI_none' {fs : List Ft} {s : ByteArray} : findI fs s < 0 ↔ gtF fs s = none := by
  rw [findI_neg]
  unfold gtF
  rw [Option.map_eq_none_iff]
set_option maxRecDepth 100000 in
set_option maxHeartbeats 8000000 in
theorem applyM_any (u1 : Option Addr) (p1 o1 n1 c1 : Nat) (B : List Ft) (u2 : Option Addr) (p2 o2 n2 c2 : Nat) (L : List Ft) (u3 : Option Addr) (n3 c3 : Nat) (ns : List ByteArray) (w : World) (hl1 : B.length = n1) (hl2 : L.length = n2) (hl3 : ns.length = n3) (hn3 : n3 ≤ 1048576)
    (h1 : Lok w ⟨u1, p1, o1, c1, B⟩) (h2 : Lok w ⟨u2, p2, o2, c2, L⟩) (h3 : StAt w u3 ns) :
    Calls Try.prog 22 #[.slice u1 n1 c1, .slice u2 n2 c2, .slice u3 n3 c3] w (ApEnd B L ns w) := by
  obtain ⟨iF, hi, hx0, hx1, hx2⟩ := info_parts info57
  have HL1 := hide hl1
  have HL2 := hide hl2
  have HL3 := hide hl3
  have H1 := hide h1
  have H2 := hide h2
  have H3 := hide h3
  clear hl1 hl2 hl3 h1 h2 h3
  have HX0 := hide (own_made w 57 w.heap.size 15 (Nat.le_refl _) _ rfl)
  have NIL := hide (fun (W : World) (hb : Below (w.alloc (.cells #[] 57)).heap.size (w.alloc (.cells #[] 57)) W) (c : Int) (hc : ApAns B L ns [] c) => (apEnd_nil hc (own_bel (unhide HX0) hb) (bc (ba (Below.refl _ _) _) hb) : ApEnd B L ns w (.returned (.tuple #[.slice (some ⟨w.heap.size, 0, none⟩) 0 0, .int .i64 c])) W))
  have HW0 := hide (ba (Below.refl w.heap.size w) (.cells #[] 57))
  have h0s : (w.alloc (.cells #[] 57)).heap.size = w.heap.size + 1 := by simp
  have HD0 := hide (Below.refl (w.alloc (.cells #[] 57)).heap.size (w.alloc (.cells #[] 57)))
  by_cases hlo : 4096 < n1 ∨ 4096 < n2 ∨ 4096 < n3
  · have HV : Hid (ApAns B L ns [] 2) := hide (.inl ⟨by rw [unhide HL1, unhide HL2, unhide HL3]; exact hlo, rfl, rfl⟩)
    clear h0s
    by_cases ha : 4096 < n1
    · have d1 : decide ((n1 : Int) > 4096) = true := decide_eq_true (by omega)
      have d2 : decide ((4096 : Int) < (n1 : Int)) = true := decide_eq_true (by omega)
      clear hlo
      go_enter Try.func22, Try.ntmps22
      go_wp2_with fail
      refine bodyPost_ret (v := .tuple #[.slice (some ⟨w.heap.size, 0, none⟩) 0 0, .int .i64 2]) (by simp [results, Try.results22, go_sem]; done) rfl ?_
      exact unhide NIL _ (unhide HD0) 2 (unhide HV)
    · have d1 : decide ((n1 : Int) > 4096) = false := decide_eq_false (by omega)
      have d2 : decide ((4096 : Int) < (n1 : Int)) = false := decide_eq_false (by omega)
      by_cases hb : 4096 < n2
      · have d3 : decide ((n2 : Int) > 4096) = true := decide_eq_true (by omega)
        have d4 : decide ((4096 : Int) < (n2 : Int)) = true := decide_eq_true (by omega)
        clear hlo
        go_enter Try.func22, Try.ntmps22
        go_wp2_with fail
        refine bodyPost_ret (v := .tuple #[.slice (some ⟨w.heap.size, 0, none⟩) 0 0, .int .i64 2]) (by simp [results, Try.results22, go_sem]; done) rfl ?_
        exact unhide NIL _ (unhide HD0) 2 (unhide HV)
      · have d3 : decide ((n2 : Int) > 4096) = false := decide_eq_false (by omega)
        have d4 : decide ((4096 : Int) < (n2 : Int)) = false := decide_eq_false (by omega)
        have d5 : decide ((n3 : Int) > 4096) = true := decide_eq_true (by omega)
        have d6 : decide ((4096 : Int) < (n3 : Int)) = true := decide_eq_true (by omega)
        clear hlo
        go_enter Try.func22, Try.ntmps22
        go_wp2_with fail
        refine bodyPost_ret (v := .tuple #[.slice (some ⟨w.heap.size, 0, none⟩) 0 0, .int .i64 2]) (by simp [results, Try.results22, go_sem]; done) rfl ?_
        exact unhide NIL _ (unhide HD0) 2 (unhide HV)
  have a1 : decide ((4096 : Int) < (n1 : Int)) = false := decide_eq_false (by omega)
  have a2 : decide ((n1 : Int) > 4096) = false := decide_eq_false (by omega)
  have a3 : decide ((4096 : Int) < (n2 : Int)) = false := decide_eq_false (by omega)
  have a4 : decide ((n2 : Int) > 4096) = false := decide_eq_false (by omega)
  have a5 : decide ((4096 : Int) < (n3 : Int)) = false := decide_eq_false (by omega)
  have a6 : decide ((n3 : Int) > 4096) = false := decide_eq_false (by omega)
  have HLE := hide (And.intro (by rw [unhide HL1]; omega : B.length ≤ 4096) (And.intro (by rw [unhide HL2]; omega : L.length ≤ 4096) (by rw [unhide HL3]; omega : ns.length ≤ 4096)))
  clear hlo h0s
  have HC1 := hide (fun W (hb : Below w.heap.size w W) => codeM_any u1 p1 o1 n1 c1 B W (unhide HL1) (by have := (unhide H1).le; rw [← unhide HL1]; exact this) (by have := (unhide H1).cap; rw [← unhide HL1]; exact this) (unhide H1).size ((unhide H1).at_.bel hb))
  have HC2 := hide (fun W (hb : Below w.heap.size w W) => codeM_any u2 p2 o2 n2 c2 L W (unhide HL2) (by have := (unhide H2).le; rw [← unhide HL2]; exact this) (by have := (unhide H2).cap; rw [← unhide HL2]; exact this) (unhide H2).size ((unhide H2).at_.bel hb))
  go_enter Try.func22, Try.ntmps22
  go_wp2_with fail
  refine (unhide HC1 _ (unhide HW0)).mono ?_
  rintro e W1 ⟨⟨c, abx, rfl, hck⟩, hb1⟩
  have HK1 := hide hck
  have HD1 := hide hb1
  clear hck hb1
  by_cases hc : c = 0
  rotate_left
  · have c0 : (c != 0) = true := by simpa using hc
    have HC0 := hide hc
    clear hc
    go_wp2_with fail
    refine bodyPost_ret (v := .tuple #[.slice (some ⟨w.heap.size, 0, none⟩) 0 0, .int .i64 c]) (by simp [results, Try.results22, go_sem]; done) rfl ?_
    exact unhide NIL _ (unhide HD1) c (.inr ⟨(unhide HLE).1, (unhide HLE).2.1, (unhide HLE).2.2, c, vg_fst (unhide HK1) (unhide HC0), .inl ⟨unhide HC0, rfl, rfl⟩⟩)
  subst hc
  go_wp2_with fail
  refine (unhide HC2 _ (bc (unhide HW0) (unhide HD1))).mono ?_
  rintro e W2 ⟨⟨c, ab', rfl, hck⟩, hb2⟩
  have HK2 := hide hck
  have HD2 := hide (bc (unhide HD1) hb2)
  clear hck hb2
  have HVG := hide (vg_two (unhide HK1) (unhide HK2))
  by_cases hc : c = 0
  rotate_left
  · have c0 : (c != 0) = true := by simpa using hc
    have HC0 := hide hc
    clear hc
    go_wp2_with fail
    refine bodyPost_ret (v := .tuple #[.slice (some ⟨w.heap.size, 0, none⟩) 0 0, .int .i64 c]) (by simp [results, Try.results22, go_sem]; done) rfl ?_
    exact unhide NIL _ (unhide HD2) c (.inr ⟨(unhide HLE).1, (unhide HLE).2.1, (unhide HLE).2.2, c, unhide HVG, .inl ⟨unhide HC0, rfl, rfl⟩⟩)
  subst hc
  have hF1 := (unhide HK1).zero.1
  have hF2 := (unhide HK2).zero.1
  have hn1 : n1 ≤ 30 := by rw [← unhide HL1]; exact hF1.len
  have hn2 : n2 ≤ 30 := by rw [← unhide HL2]; exact hF2.len
  clear hF1 hF2
  have HFB := hide (fun s W (hb : Below w.heap.size w W) => find_any u1 p1 o1 n1 c1 B s W (unhide HL1) (by omega) ((unhide H1).at_.bel hb))
  have HFL := hide (fun s W (hb : Below w.heap.size w W) => find_any u2 p2 o2 n2 c2 L s W (unhide HL2) (by omega) ((unhide H2).at_.bel hb))
  go_wp2_with fail
  go_loopw [11] (fun s W => ∃ i : Nat, s = .int .i64 (i : Int) ∧ i ≤ n3 ∧ (∀ (j : Nat) (s : ByteArray), j < i → ns[j]? = some s → gtF B s ≠ none ∨ gtF L s ≠ none) ∧ W = W2) (fun s _ => n3 - (intOf s).toNat)
  case atStart => exact ⟨0, rfl, Nat.zero_le _, fun j s hj => by omega, rfl⟩
  case round =>
    obtain ⟨i, rfl, hi1, hno, hw⟩ := hrel
    subst hw
    have HN := hide hno
    clear hno
    have HWN := hide (bc (unhide HW0) (unhide HD2))
    by_cases h : i < n3
    · have i1 : (i : Int) < (n3 : Int) := by omega
      have i0 : (0 : Int) ≤ (i : Int) := Int.natCast_nonneg _
      have iz : decide ((i : Int) < (n3 : Int)) = true := decide_eq_true i1
      obtain ⟨s, hx⟩ := get_some (unhide HL3) h
      have hne : ns ≠ [] := by intro e; subst e; cases hx
      obtain ⟨g, o, rfl, hgl, hc⟩ := ((unhide H3).bel (unhide HWN)) hne
      have k0 := hc i s hx
      have HX := hide hx
      have HA := hide (unhide HFB s _ (unhide HWN))
      have HB := hide (unhide HFL s _ (unhide HWN))
      have hia := findI_none' (fs := B) (s := s)
      have hib := findI_none' (fs := L) (s := s)
      clear hx hc hne
      generalize findI B s = fa at *
      generalize findI L s = fb at *
      by_cases hfa : fa < 0
      · have d1 : decide (fa < 0) = true := decide_eq_true hfa
        have HGA := hide (hia.1 hfa)
        clear hia
        by_cases hfb : fb < 0
        · have d2 : decide (fb < 0) = true := decide_eq_true hfb
          have HGB := hide (hib.1 hfb)
          clear hib
          go_wp2_with fail
          refine (unhide HA).mono ?_
          rintro e W4 ⟨rfl, rfl⟩
          go_wp2_with fail
          refine (unhide HB).mono ?_
          rintro e W4 ⟨rfl, rfl⟩
          go_wp2_with fail
          refine bodyPost_ret (v := .tuple #[.slice (some ⟨w.heap.size, 0, none⟩) 0 0, .int .i64 6]) (by simp [results, Try.results22, go_sem]; done) rfl ?_
          exact unhide NIL _ (unhide HD2) 6 (.inr ⟨(unhide HLE).1, (unhide HLE).2.1, (unhide HLE).2.2, 0, unhide HVG, .inr ⟨rfl, .inl ⟨⟨s, List.mem_of_getElem? (unhide HX), unhide HGA, unhide HGB⟩, rfl, rfl⟩⟩⟩)
        · have d2 : decide (fb < 0) = false := decide_eq_false hfb
          have HGB := hide (fun e => hfb (hib.2 e))
          clear hib
          go_wp2_with fail
          refine (unhide HA).mono ?_
          rintro e W4 ⟨rfl, rfl⟩
          go_wp2_with fail
          refine (unhide HB).mono ?_
          rintro e W4 ⟨rfl, rfl⟩
          go_wp2_with fail
          go_roundw
          case rel =>
            refine ⟨i + 1, by simp, h, ?_, by first | rfl | trivial⟩
            intro j t hj ht
            by_cases e : j = i
            · subst e
              rw [unhide HX] at ht
              cases ht
              exact .inr (unhide HGB)
            · exact unhide HN j t (by omega) ht
          case measure => simp only [intOf]; omega
      · have d1 : decide (fa < 0) = false := decide_eq_false hfa
        have HGA := hide (fun e => hfa (hia.2 e))
        clear hia hib
        go_wp2_with fail
        refine (unhide HA).mono ?_
        rintro e W4 ⟨rfl, rfl⟩
        go_wp2_with fail
        go_roundw
        case rel =>
          refine ⟨i + 1, by simp, h, ?_, by first | rfl | trivial⟩
          intro j t hj ht
          by_cases e : j = i
          · subst e
            rw [unhide HX] at ht
            cases ht
            exact .inl (unhide HGA)
          · exact unhide HN j t (by omega) ht
        case measure => simp only [intOf]; omega
    · have i1 : ¬ (i : Int) < (n3 : Int) := by omega
      have iz : decide ((i : Int) < (n3 : Int)) = false := decide_eq_false i1
      have HQ := hide (fun s (hs : s ∈ ns) => (by
        obtain ⟨j, hj, rfl⟩ := List.getElem_of_mem hs
        exact unhide HN j _ (by have := unhide HL3; omega) (List.getElem?_eq_getElem hj) : gtF B s ≠ none ∨ gtF L s ≠ none))
      clear HN
      go_wp2_with fail
      have HU1 : Hid (SlG ftc 15 w u1 p1 o1 B) := hide (unhide H1).at_
      have HU2 : Hid (SlG ftc 15 w u2 p2 o2 L) := hide (unhide H2).at_
      obtain ⟨b0, hb0⟩ : ∃ b0, (w.alloc (.cells #[] 57)).heap.size = b0 := ⟨_, rfl⟩
      have HB0 := hide hb0
      have hbw : w.heap.size ≤ b0 := by rw [← hb0]; simp
      have HBW := hide hbw
      have HDX : Hid (Below b0 (w.alloc (.cells #[] 57)) wr) := hide (by rw [← hb0]; exact unhide HD2)
      have hbr : b0 ≤ wr.heap.size := by rw [← hb0]; exact (unhide HD2).size
      have HBR := hide hbr
      have HTOW := hide (fun W (hW : Below b0 (w.alloc (.cells #[] 57)) W) => ((unhide HW0).trans (hW.mono hbw) : Below w.heap.size w W))
      have HHS := hide (fun s W (hW : Below w.heap.size w W) => has_any u3 n3 c3 ns s W (unhide HL3) hn3 ((unhide H3).bel hW))
      have HGT := hide (fun s W (hW : Below w.heap.size w W) => getM_any u2 p2 o2 n2 c2 L s W (unhide HL2) (by omega) ((unhide HU2).bel hW))
      clear HFL HC1 HC2 hb0 hbw hbr
      go_loopw [12, 13] (fun v s W => ∃ (i m : Nat), s = .int .i64 (i : Int) ∧ i ≤ n1 ∧ m ≤ i ∧ ((B.take i).filterMap (apB L ns)).length = m ∧ W.ownsRow b0 57 15 v m (flatG ftc ((B.take i).filterMap (apB L ns))) ∧ Below b0 (w.alloc (.cells #[] 57)) W ∧ b0 ≤ W.heap.size) (fun _ s _ => n1 - (intOf s).toNat)
      case atStart => exact ⟨0, 0, rfl, Nat.zero_le _, Nat.le_refl _, rfl, own_made wr 57 b0 15 (unhide HBR) _ rfl, Below.alloc (unhide HDX) (unhide HBR) _, Nat.le_trans (unhide HBR) (by simp)⟩
      case round =>
        obtain ⟨i, m, rfl, hi1, hmi, hlen, hrow, hd, hbs⟩ := hrel
        have HR := hide hrow
        have HD := hide hd
        have HBS := hide hbs
        have HW := hide (unhide HTOW _ hd)
        have HLN := hide hlen
        obtain ⟨ug, cg, rfl, _⟩ := own_form hrow
        have hge := own_ge hrow
        clear hrow hd hlen hbs
        by_cases h : i < n1
        · have i1 : (i : Int) < (n1 : Int) := by omega
          have i0 : (0 : Int) ≤ (i : Int) := Int.natCast_nonneg _
          have iz : decide ((i : Int) < (n1 : Int)) = true := decide_eq_true i1
          obtain ⟨x, hx⟩ := get_some (unhide HL1) h
          obtain ⟨F, hF⟩ := fl_ex x
          obtain ⟨rfl, hpw, hld⟩ := SlG.load hF ((unhide HU1).bel (unhide HW)) hx
          have LD := hide hld
          have HI := hide hF.info
          have HO := hide hF.one
          have HF := hide hF
          have hfold := fold_F hF
          have hsz := hF.size
          have HTK := hide (filterMap_take (apB L ns) hx)
          have HLF := hide (fun g W (h : ab W g 57 F) => hF.load0 h)
          have cF0 : F[0]'(by omega) = .string x.nm := by
            have c0 : F[0]? = some (.string x.nm) := by rw [← Array.getElem?_toList, hF.l]; rfl
            rw [Array.getElem?_eq_getElem (by omega)] at c0
            exact Option.some.inj c0
          have HN := hide (ab_new wr 57 F _ rfl)
          have HWN := hide (ba (unhide HW) (.cells F 57))
          have HDN := hide (Below.alloc (unhide HD) (unhide HBS) (.cells F 57))
          have HBN : Hid (b0 ≤ (wr.alloc (.cells F 57)).heap.size) := hide (Nat.le_trans (unhide HBS) (by simp))
          have HRN := hide (own_bel (unhide HR) (ba (Below.refl _ _) (.cells F 57)))
          have hap : apB L ns x = if hasT ns x.nm = true then gtF L x.nm else some x := rfl
          have HHX := hide (unhide HHS x.nm _ (unhide HWN))
          have HGX := hide (unhide HGT x.nm _ (unhide HWN))
          have HGE := hide hge
          clear hld hx hF hge
          cases hq : hasT ns x.nm
          · rw [hq] at HHX hap
            have HTK2 : Hid ((B.take (i + 1)).filterMap (apB L ns) = (B.take i).filterMap (apB L ns) ++ [x]) := hide (by rw [unhide HTK, hap]; rfl)
            clear hq hap HTK
            go_wp2_with (first | refine wpl_loadAt rfl 57 (.tmp 76) rfl _ rfl _ (unhide LD) ?_ | refine wpl_putNew rfl 57 _ _ rfl wr _ F 57 rfl rfl (unhide HI) (by rw [hsz]; rfl) (unhide HO) ?_)
            refine (unhide HHX).mono ?_
            rintro e W4 ⟨rfl, rfl⟩
            go_wp2_with (first
              | refine wpl_loadAt rfl 57 (.tmp 14) rfl _ rfl _ (unhide HLF _ _ (unhide HN)) ?_
              | (at_builtin; refine unhide ?_))
            refine hide ?_
            refine wpList_append_own _ rfl _ _ 27 rfl b0 57 iF _ 15 144 Try.underlying27 hi hx0 hx1 hx2 rfl (by decide) _ m _ rfl (own_bel (unhide HRN) (ba (Below.refl _ _) _)) _ 1 1 (ftc x) rfl rfl (news_F (unhide HF) _ (by simp)) (ftc_one x) (by unfold maxLen; omega) (by omega) (Nat.le_trans (unhide HBN) (by simp)) ?_
            intro v' w1 hown' hgrow _
            have R := hide (own_ft (Below.alloc (Below.refl b0 _) (unhide HBN) _) (Nat.le_trans (unhide HBN) (by simp)) (unhide HRN) hown' hgrow)
            clear hown' hgrow
            go_wp2_with fail
            go_roundw
            case rel => exact ⟨i + 1, m + 1, by simp, h, by omega, by rw [unhide HTK2, List.length_append, unhide HLN]; rfl, by rw [unhide HTK2]; exact (unhide R).1, (unhide HDN).trans (unhide R).2, Nat.le_trans (unhide HBN) (unhide R).2.size⟩
            case measure => simp only [intOf]; omega
          · rw [hq] at HHX hap
            rw [if_pos rfl] at hap
            clear hq
            go_wp2_with (first | refine wpl_loadAt rfl 57 (.tmp 76) rfl _ rfl _ (unhide LD) ?_ | refine wpl_putNew rfl 57 _ _ rfl wr _ F 57 rfl rfl (unhide HI) (by rw [hsz]; rfl) (unhide HO) ?_)
            refine (unhide HHX).mono ?_
            rintro e W4 ⟨rfl, rfl⟩
            go_wp2_with fail
            refine (unhide HGX).mono ?_
            rintro e W5 ⟨rfl, hb5⟩
            obtain ⟨G, hG⟩ := fl_ex ((gtF L x.nm).getD ft0)
            rw [hG.v]
            have HN5 := hide ((unhide HN).bel hb5)
            have HD5 := hide ((unhide HDN).trans (hb5.mono (unhide HBN)))
            have HB5 := hide (Nat.le_trans (unhide HBN) hb5.size)
            have HR5 := hide (own_bel (unhide HRN) hb5)
            have HGI := hide hG.info
            have HGO := hide hG.one
            have hgz := hG.size
            have HRS := hide (own_kept (unhide HR5) (w' := W5.setRow wr.heap.size G) (fun k hk => row_other G (by have := unhide HGE k hk; omega)))
            have HDS := hide ((unhide HD5).trans (bel_row (Below.refl _ _) (unhide HBS) G) : Below b0 (w.alloc (.cells #[] 57)) (W5.setRow wr.heap.size G))
            have HBS5 : Hid (b0 ≤ (W5.setRow wr.heap.size G).heap.size) := hide (by simpa [World.setRow] using unhide HB5)
            have HNS := hide (row_same (unhide HN5) G)
            have HLG := hide (fun g W (h : ab W g 57 G) => hG.load0 h)
            have hfoldG := fold_F hG
            clear hb5 cF0 hfold
            cases hg : gtF L x.nm with
            | none =>
              rw [hg] at hap
              have HTK2 : Hid ((B.take (i + 1)).filterMap (apB L ns) = (B.take i).filterMap (apB L ns)) := hide (by rw [unhide HTK, hap]; simp)
              clear hap hg hG
              go_wp2_with (refine wpl_storeRowA rfl 57 _ _ rfl wr.heap.size G rfl rfl 57 F (unhide HN5) (unhide HGI) (by rw [hsz, hgz]) (unhide HGO) ?_)
              go_roundw
              case rel => exact ⟨i + 1, m, by simp, h, by omega, by rw [unhide HTK2, unhide HLN], by rw [unhide HTK2]; exact unhide HRS, unhide HDS, unhide HBS5⟩
              case measure => simp only [intOf]; omega
            | some y =>
              rw [hg] at hap hG
              simp only [Option.getD_some] at hG
              have HGF := hide hG
              have HTK2 : Hid ((B.take (i + 1)).filterMap (apB L ns) = (B.take i).filterMap (apB L ns) ++ [y]) := hide (by rw [unhide HTK, hap]; rfl)
              clear hap hg hG
              go_wp2_with (first
                | refine wpl_storeRowA rfl 57 _ _ rfl wr.heap.size G rfl rfl 57 F (unhide HN5) (unhide HGI) (by rw [hsz, hgz]) (unhide HGO) ?_
                | refine wpl_loadAt rfl 57 (.tmp 14) rfl _ rfl _ (unhide HLG _ _ (unhide HNS)) ?_
                | (at_builtin; refine unhide ?_))
              refine hide ?_
              refine wpList_append_own _ rfl _ _ 27 rfl b0 57 iF _ 15 144 Try.underlying27 hi hx0 hx1 hx2 rfl (by decide) _ m _ rfl (own_bel (unhide HRS) (ba (Below.refl _ _) _)) _ 1 1 (ftc y) rfl rfl (news_F (unhide HGF) _ (by simp [World.setRow])) (ftc_one y) (by unfold maxLen; omega) (by omega) (Nat.le_trans (unhide HBS5) (by simp)) ?_
              intro v' w1 hown' hgrow _
              have R := hide (own_ft (Below.alloc (Below.refl b0 _) (unhide HBS5) _) (Nat.le_trans (unhide HBS5) (by simp)) (unhide HRS) hown' hgrow)
              clear hown' hgrow
              go_wp2_with fail
              go_roundw
              case rel => exact ⟨i + 1, m + 1, by simp, h, by omega, by rw [unhide HTK2, List.length_append, unhide HLN]; rfl, by rw [unhide HTK2]; exact (unhide R).1, (unhide HDS).trans (unhide R).2, Nat.le_trans (unhide HBS5) (unhide R).2.size⟩
              case measure => simp only [intOf]; omega
        · have i1 : ¬ (i : Int) < (n1 : Int) := by omega
          have iz : decide ((i : Int) < (n1 : Int)) = false := decide_eq_false i1
          have HE : Hid ((B.take i).filterMap (apB L ns) = B.filterMap (apB L ns)) := hide (by rw [List.take_of_length_le (by rw [unhide HL1]; omega)])
          have HRB := hide (unhide HR)
          have HLB := hide (unhide HLN)
          rw [unhide HE] at HRB HLB
          have hm30 : m ≤ 30 := by omega
          clear HR HLN HE hge HGT
          go_wp2_with fail
          go_loopw [12, 16] (fun v s W => ∃ (i q : Nat), s = .int .i64 (i : Int) ∧ i ≤ n2 ∧ q ≤ m + i ∧ m + ((L.take i).filter (apL B ns)).length = q ∧ W.ownsRow b0 57 15 v q (flatG ftc (B.filterMap (apB L ns) ++ (L.take i).filter (apL B ns))) ∧ Below b0 (w.alloc (.cells #[] 57)) W ∧ b0 ≤ W.heap.size) (fun _ s _ => n2 - (intOf s).toNat)
          case atStart => exact ⟨0, m, rfl, Nat.zero_le _, by omega, rfl, by simpa using unhide HRB, unhide HD, unhide HBS⟩
          case round =>
            obtain ⟨i, q, rfl, hi1, hmi, hlen, hrow, hd, hbs⟩ := hrel
            have HR := hide hrow
            have HD := hide hd
            have HBS := hide hbs
            have HW := hide (unhide HTOW _ hd)
            have HLN := hide hlen
            obtain ⟨ug, cg, rfl, hcg, _, hsl9⟩ := own_form hrow
            clear hd hlen hbs
            by_cases h : i < n2
            · have i1 : (i : Int) < (n2 : Int) := by omega
              have i0 : (0 : Int) ≤ (i : Int) := Int.natCast_nonneg _
              have iz : decide ((i : Int) < (n2 : Int)) = true := decide_eq_true i1
              obtain ⟨x, hx⟩ := get_some (unhide HL2) h
              obtain ⟨F, hF⟩ := fl_ex x
              obtain ⟨rfl, hpw, hld⟩ := SlG.load hF ((unhide HU2).bel (unhide HW)) hx
              have k0 := (((unhide HU2).bel (unhide HW)).at15 hx).2.1
              have LD := hide hld
              have HF := hide hF
              have hfold := fold_F hF
              have hsz := hF.size
              have HTK := hide (filter_take (apL B ns) hx)
              have hap : apL B ns x = (hasT ns x.nm && (gtF B x.nm).isNone) := rfl
              have HHX := hide (unhide HHS x.nm _ (unhide HW))
              have HFX := hide (unhide HFB x.nm _ (unhide HW))
              have hfi := findI_none' (fs := B) (s := x.nm)
              have HFI := hide hfi
              clear hld hx hF hrow hsl9 hcg hfi
              cases hq : hasT ns x.nm
              · rw [hq] at HHX hap
                have HTK2 : Hid ((L.take (i + 1)).filter (apL B ns) = (L.take i).filter (apL B ns)) := hide (by rw [unhide HTK, hap]; simp)
                clear hq hap HTK
                go_wp2_with fail
                refine (unhide HHX).mono ?_
                rintro e W4 ⟨rfl, rfl⟩
                go_wp2_with fail
                go_roundw
                case rel => exact ⟨i + 1, q, by simp, h, by omega, by rw [unhide HTK2, unhide HLN], by rw [unhide HTK2]; exact unhide HR, unhide HD, unhide HBS⟩
                case measure => simp only [intOf]; omega
              · rw [hq] at HHX hap
                clear hq
                by_cases hfb : findI B x.nm < 0
                · have hg := (unhide HFI).1 hfb
                  rw [hg] at hap
                  have d2 : decide (findI B x.nm < 0) = true := decide_eq_true hfb
                  have HTK2 : Hid ((L.take (i + 1)).filter (apL B ns) = (L.take i).filter (apL B ns) ++ [x]) := hide (by rw [unhide HTK, hap]; rfl)
                  clear hap HTK hg
                  generalize findI B x.nm = fb at *
                  go_wp2_with fail
                  refine (unhide HHX).mono ?_
                  rintro e W4 ⟨rfl, rfl⟩
                  go_wp2_with fail
                  refine (unhide HFX).mono ?_
                  rintro e W4 ⟨rfl, rfl⟩
                  go_wp2_with (first
                    | refine wpl_loadAt rfl 57 (.tmp 120) rfl _ rfl _ (unhide LD) ?_
                    | (at_builtin; refine unhide ?_))
                  refine hide ?_
                  refine wpList_append_own _ rfl _ _ 27 rfl b0 57 iF _ 15 144 Try.underlying27 hi hx0 hx1 hx2 rfl (by decide) _ q _ rfl (own_bel (unhide HR) (ba (Below.refl _ _) _)) _ 1 1 (ftc x) rfl rfl (news_F (unhide HF) _ (by simp)) (ftc_one x) (by unfold maxLen; omega) (by omega) (Nat.le_trans (unhide HBS) (by simp)) ?_
                  intro v' w1 hown' hgrow _
                  have R := hide (own_ft (Below.alloc (Below.refl b0 _) (unhide HBS) _) (Nat.le_trans (unhide HBS) (by simp)) (unhide HR) hown' hgrow)
                  clear hown' hgrow
                  go_wp2_with fail
                  go_roundw
                  case rel => exact ⟨i + 1, q + 1, by simp, h, by omega, by rw [unhide HTK2, List.length_append, ← Nat.add_assoc, unhide HLN]; rfl, by rw [unhide HTK2, ← List.append_assoc]; exact (unhide R).1, (unhide HD).trans (unhide R).2, Nat.le_trans (unhide HBS) (unhide R).2.size⟩
                  case measure => simp only [intOf]; omega
                · have hg : (gtF B x.nm).isNone = false := by
                    cases e : gtF B x.nm with
                    | none => exact (hfb ((unhide HFI).2 e)).elim
                    | some y => rfl
                  rw [hg] at hap
                  have d2 : decide (findI B x.nm < 0) = false := decide_eq_false hfb
                  have HTK2 : Hid ((L.take (i + 1)).filter (apL B ns) = (L.take i).filter (apL B ns)) := hide (by rw [unhide HTK, hap]; simp)
                  clear hap HTK hg
                  generalize findI B x.nm = fb at *
                  go_wp2_with fail
                  refine (unhide HHX).mono ?_
                  rintro e W4 ⟨rfl, rfl⟩
                  go_wp2_with fail
                  refine (unhide HFX).mono ?_
                  rintro e W4 ⟨rfl, rfl⟩
                  go_wp2_with fail
                  go_roundw
                  case rel => exact ⟨i + 1, q, by simp, h, by omega, by rw [unhide HTK2, unhide HLN], by rw [unhide HTK2]; exact unhide HR, unhide HD, unhide HBS⟩
                  case measure => simp only [intOf]; omega
            · have i1 : ¬ (i : Int) < (n2 : Int) := by omega
              have iz : decide ((i : Int) < (n2 : Int)) = false := decide_eq_false i1
              have HE : Hid (B.filterMap (apB L ns) ++ (L.take i).filter (apL B ns) = apl B L ns) := hide (by rw [List.take_of_length_le (by rw [unhide HL2]; omega)]; rfl)
              have hql : (apl B L ns).length = q := by rw [← unhide HE, List.length_append, unhide HLB]; exact unhide HLN
              have HQL := hide hql
              have HRA := hide hrow
              rw [unhide HE] at HRA
              have hsl : ∃ p, SlG ftc 15 wr ug p 0 (apl B L ns) := by
                have h1 := unhide HRA
                rw [← hql] at h1
                obtain ⟨u9, c9, p9, e9, _, h9⟩ := own_slF h1
                injection e9 with q1 q2 q3
                subst q1
                exact ⟨p9, h9⟩
              obtain ⟨pq, hsl⟩ := hsl
              have HCD := hide (codeM_any ug pq 0 q cg (apl B L ns) wr hql (by omega) hcg (by
                intro f hf
                rcases apl_mem hf with h | h
                · exact (unhide H1).size f h
                · exact (unhide H2).size f h) hsl)
              clear hrow hsl9 hsl hql HR
              go_wp2_with fail
              refine (unhide HCD).mono ?_
              rintro e W6 ⟨⟨k, aby, rfl, hck⟩, hb6⟩
              have HCK := hide hck
              have HD6 := hide ((unhide HD).trans (hb6.mono (unhide HBS)))
              have HR6 := hide (own_bel (unhide HRA) hb6)
              clear hck hb6 HCD
              by_cases hk : k = 0
              rotate_left
              · have k0 : (k != 0) = true := by simpa using hk
                have HK0 := hide hk
                clear hk
                go_wp2_with fail
                refine bodyPost_ret (v := .tuple #[.slice (some ⟨w.heap.size, 0, none⟩) 0 0, .int .i64 13]) (by simp [results, Try.results22, go_sem]; done) rfl ?_
                exact unhide NIL _ (by rw [unhide HB0]; exact unhide HD6) 13 (.inr ⟨(unhide HLE).1, (unhide HLE).2.1, (unhide HLE).2.2, 0, unhide HVG, .inr ⟨rfl, .inr ⟨unhide HQ, k, aby, unhide HCK, .inl ⟨unhide HK0, rfl, rfl⟩⟩⟩⟩)
              subst hk
              go_wp2_with fail
              refine bodyPost_ret (v := .tuple #[.slice ug q cg, .int .i64 0]) (by simp [results, Try.results22, go_sem]; done) rfl ?_
              refine ⟨⟨_, 0, apl B L ns, rfl, .inr ⟨(unhide HLE).1, (unhide HLE).2.1, (unhide HLE).2.2, 0, unhide HVG, .inr ⟨rfl, .inr ⟨unhide HQ, 0, aby, unhide HCK, .inr ⟨rfl, rfl, rfl⟩⟩⟩⟩, ?_⟩, unhide HTOW _ (unhide HD6)⟩
              rw [unhide HQL]
              exact own_mono (unhide HR6) (unhide HBW)
end Go.Proofs.Ytkkmikgeppkhiaa
