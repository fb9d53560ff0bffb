/-
  What the model's l00Cut answers: a text's parts between slashes, at every text of at most 65536 bytes.
-/
import Derived.Test.YtidafleegkofkaiDoorNumbersB
import Derived.Test.YtidafleegkofkaiDoorReadsC
import Derived.WalkKit
namespace Go.Proofs.YtidafleegkofkaiDoor
open Go.ChangeShapes Go.WideShapes Go.ChangeAt Go.RowKit
set_option linter.unusedVariables false
set_option linter.unusedSimpArgs false

/-- of the first k bytes: the parts that are closed by a slash, and where the next one begins -/
def cutTo (s : ByteArray) : Nat → List ByteArray × Nat
  | 0 => ([], 0)
  | k + 1 => if s.data.toList[k]? = some 47 then ((cutTo s k).1 ++ [s.extract (cutTo s k).2 k], k + 1) else cutTo s k
def cutAll (s : ByteArray) : List ByteArray := (cutTo s s.size).1 ++ [s.extract (cutTo s s.size).2 s.size]

theorem cut_hit (s : ByteArray) (k f : Nat) (L : List ByteArray) (hlt : k < s.size) (h : cutTo s k = (L, f)) (hb : (s[k]'hlt).toNat = 47) : cutTo s (k + 1) = (L ++ [s.extract f k], k + 1) := by
  have e : s.data.toList[k]? = some 47 := by rw [at_list s k hlt]; exact congrArg some (UInt8.toNat_inj.1 hb)
  show (if s.data.toList[k]? = some 47 then ((cutTo s k).1 ++ [s.extract (cutTo s k).2 k], k + 1) else cutTo s k) = _
  rw [if_pos e, h]
theorem cut_miss (s : ByteArray) (k f : Nat) (L : List ByteArray) (hlt : k < s.size) (h : cutTo s k = (L, f)) (hb : (s[k]'hlt).toNat ≠ 47) : cutTo s (k + 1) = (L, f) := by
  have e : s.data.toList[k]? ≠ some 47 := by
    rw [at_list s k hlt]
    intro h2
    exact hb (by rw [Option.some.inj h2]; rfl)
  show (if s.data.toList[k]? = some 47 then ((cutTo s k).1 ++ [s.extract (cutTo s k).2 k], k + 1) else cutTo s k) = _
  rw [if_neg e, h]

theorem info9 : (Tryd.prog.info? 9).map (fun i => (i.zero, i.size, i.bytes)) = some (some (.string ⟨#[]⟩), 1, 16) := by kernel_rfl

/-- behind an append -/
theorem own_keep {B : Nat} {w wr w1 : World} {v v' : Value} {o : Obj} {L : List ByteArray} {x : ByteArray} (hB : B ≤ wr.heap.size) (hown : wr.ownsRow B 9 1 v L.length (L.map Value.string)) (hnx : Below B w wr)
    (hown' : w1.ownsRow B 9 1 v' (L.length + 1) (L.map Value.string ++ [.string x])) (hgrow : (wr.alloc o).grownBy w1 v.ownBlock) :
    w1.ownsRow B 9 1 v' (L ++ [x]).length ((L ++ [x]).map Value.string) ∧ Below B w w1 :=
  ⟨by simpa using hown', (hnx.alloc hB o).grown hgrow (by simp; omega) (fun j hj => (hown.lt j hj).1)⟩

set_option maxRecDepth 100000 in
set_option maxHeartbeats 1000000 in
theorem cut_any (s : ByteArray) (w : World) (hs : s.size ≤ 65536) :
    Calls Tryd.prog 15 #[.string s, .int .u8 47] w fun e w' => ∃ v, e = .returned v ∧ w'.ownsRow w.heap.size 9 1 v (cutAll s).length ((cutAll s).map Value.string) ∧ Below w.heap.size w w' := by
  obtain ⟨i0, hi, hz0, hz1, hz2⟩ := info_parts info9
  go_enter Tryd.func15, Tryd.ntmps15
  go_wp2
  go_loopw [5, 6, 7] (fun v f i wr => ∃ (k m : Nat) (L : List ByteArray), i = .int .i64 (k : Int) ∧ f = .int .i64 (m : Int) ∧ k ≤ s.size ∧ m ≤ k ∧ L.length ≤ k ∧ cutTo s k = (L, m) ∧ wr.ownsRow w.heap.size 9 1 v L.length (L.map Value.string) ∧ Below w.heap.size w wr)
    (fun _ _ i _ => s.size - (intOf i).toNat)
  case atStart => exact ⟨0, 0, [], rfl, rfl, Nat.zero_le _, Nat.le_refl _, Nat.le_refl _, rfl, World.ownsRow_made w #[] 0 (Nat.le_refl _) (by decide) rfl, bel_alloc (Below.refl _ _) _⟩
  case round =>
    obtain ⟨k, m, L, rfl, rfl, hk, hm, hL, hc, hown, hnx⟩ := hrel
    have HC := hide hc
    have HN := hide hnx
    have HO := hide hown
    have hsz := hnx.size
    clear hc hnx hown
    by_cases hlt : k < s.size
    · have hc1 : (s[k]'hlt).toNat < 256 := UInt8.toNat_lt _
      by_cases hb : (s[k]'hlt).toNat = 47
      · have e1 : (((s[k]'hlt).toNat : Int) == 47) = true := by rw [beq_iff_eq]; omega
        have HK := hide (cut_hit s k m L hlt (unhide HC) hb)
        clear hb
        go_wp2_with (at_builtin; refine wpList_append_own _ rfl _ _ 35 rfl w.heap.size 9 i0 (.string ⟨#[]⟩) 1 16 Tryd.underlying35 hi hz0 hz1 hz2 rfl (by decide) _ _ _ rfl ((unhide HO).alloc _) ⟨wr.heap.size, 0, none⟩ 1 1 [.string (s.extract m k)] rfl rfl ?c1 ?c2 ?c3 ?c4 ?c5 ?_)
        case c1 =>
          intro j u hj
          match j, hj with
          | 0, hj => simp at hj; subst hj; simp [Addr.add]
        case c2 => intro u hu; simp at hu; subst hu; rfl
        case c3 => unfold maxLen; omega
        case c4 => omega
        case c5 => simp; omega
        intro v' w1 hown' hgrow _
        have R := hide (own_keep hsz (unhide HO) (unhide HN) hown' hgrow)
        clear hown' hgrow
        go_wp2
        go_roundw
        case rel => exact ⟨k + 1, k + 1, L ++ [s.extract m k], by go_num, by go_num, by omega, by omega, by simp; omega, unhide HK, (unhide R).1, (unhide R).2⟩
        case measure => simp [intOf]; omega
      · have e1 : (((s[k]'hlt).toNat : Int) == 47) = false := by rw [beq_eq_false_iff_ne]; omega
        have HK := hide (cut_miss s k m L hlt (unhide HC) hb)
        clear hb
        go_wp2
        go_roundw
        case rel => exact ⟨k + 1, m, L, by go_num, by go_num, by omega, by omega, by omega, unhide HK, unhide HO, unhide HN⟩
        case measure => simp [intOf]; omega
    · have hke : k = s.size := by omega
      have HK : Hid (cutAll s = L ++ [s.extract m s.size]) := hide (by unfold cutAll; rw [← hke, unhide HC])
      clear hke HC
      go_wp2_with (at_builtin; refine wpList_append_own _ rfl _ _ 35 rfl w.heap.size 9 i0 (.string ⟨#[]⟩) 1 16 Tryd.underlying35 hi hz0 hz1 hz2 rfl (by decide) _ _ _ rfl ((unhide HO).alloc _) ⟨wr.heap.size, 0, none⟩ 1 1 [.string (s.extract m s.size)] rfl rfl ?d1 ?d2 ?d3 ?d4 ?d5 ?_)
      case d1 =>
        intro j u hj
        match j, hj with
        | 0, hj => simp at hj; subst hj; simp [Addr.add]
      case d2 => intro u hu; simp at hu; subst hu; rfl
      case d3 => unfold maxLen; omega
      case d4 => omega
      case d5 => simp; omega
      intro v' w1 hown' hgrow _
      have R := hide (own_keep hsz (unhide HO) (unhide HN) hown' hgrow)
      clear hown' hgrow
      go_wp2
      go_ret
      exact ⟨_, rfl, by rw [unhide HK]; exact (unhide R).1, (unhide R).2⟩
end Go.Proofs.YtidafleegkofkaiDoor
