/-
  That two rows of jobs are the same.
-/
import Derived.Test.YtbgekppggakdoaaJbRows
namespace Go.Proofs.Ytbgekppggakdoaa
open Go.ChangeShapes Go.WideShapes Go.ChangeAt Go.RowKit
set_option linter.unusedVariables false
set_option linter.unusedSimpArgs false

set_option maxHeartbeats 2000000 in
theorem jb_same (u v : Option Addr) (p po q qo n cu cv : Nat) (J K : List Jb) (w : World) (hl : J.length = n) (hn : n ≤ 1048576) (hs : ∀ j ∈ J, j.sn ≤ 1048576) (ha : Alike J K) (hu : Jbs w u p po J) (hv : Jbs w v q qo K) :
    Calls Try.prog 12 #[.slice u n cu, .slice v n cv] w fun e w' => e = .returned (.bool true) ∧ Below w.heap.size w w' := by
  have HU := hide (fun W (hW : Below w.heap.size w W) => hu.bel hW)
  have HV := hide (fun W (hW : Below w.heap.size w W) => hv.bel hW)
  have HL := hide hl
  have HL2 : Hid (K.length = n) := hide (by rw [ha.len, hl])
  have HS := hide hs
  have HA := hide ha
  clear hu hv hl hs ha
  go_enter Try.func12, Try.ntmps12
  go_wp2
  go_loopw [5] (fun s W => ∃ i : Nat, s = .int .i64 (i : Int) ∧ i ≤ n ∧ Below w.heap.size w W) (fun s _ => n - (intOf s).toNat)
  case atStart => exact ⟨0, rfl, Nat.zero_le _, Below.refl _ _⟩
  case round =>
    obtain ⟨i, rfl, hi, hw⟩ := hrel
    have HW := hide hw
    by_cases h : i < n
    · have i1 : (i : Int) < (n : Int) := by omega
      have i0 : (0 : Int) ≤ (i : Int) := Int.natCast_nonneg _
      have iz : decide ((i : Int) < (n : Int)) = true := decide_eq_true i1
      obtain ⟨a, hx⟩ := get_some (unhide HL) h
      obtain ⟨b, hy⟩ := get_some (unhide HL2) h
      obtain ⟨rfl, pw, k0, k1, k2⟩ := (unhide HU _ hw).at hx
      obtain ⟨rfl, qw, l0, l1, l2⟩ := (unhide HV _ hw).at hy
      obtain ⟨e1, e2, e3⟩ := (unhide HA).at hx hy
      have HC := hide (fun W (hW : Below w.heap.size w W) => jbE_one a b W ((unhide HU _ hW).each a (List.mem_of_getElem? hx)) ((unhide HV _ hW).each b (List.mem_of_getElem? hy)) e1 e2 e3 (unhide HS a (List.mem_of_getElem? hx)))
      clear hw hx hy e1 e2 e3
      obtain ⟨an, ad, au, al, ac, ap, ao, at'⟩ := a
      obtain ⟨bn, bd, bu, bl, bc', bp, bo, bt⟩ := b
      simp only [] at k0 k1 k2 l0 l1 l2 HC
      go_wp2_with fail
      go_region_held3 (fun wx => wx.cell? ⟨p, po + i * 3, none⟩ = some (.string an) ∧ wx.cell? ⟨p, po + i * 3 + 1, none⟩ = some (.int .i64 ad) ∧ wx.cell? ⟨p, po + i * 3 + 2, none⟩ = some (.slice au al ac) ∧ wx.cell? ⟨q, qo + i * 3, none⟩ = some (.string bn) ∧ wx.cell? ⟨q, qo + i * 3 + 1, none⟩ = some (.int .i64 bd) ∧ wx.cell? ⟨q, qo + i * 3 + 2, none⟩ = some (.slice bu bl bc'))
        (simp (maxDischargeDepth := 12) [go_sem, le1, lt1, *])
        (first
        | (go_at_call 35; refine (unhide HC _ (by repeat (first | exact unhide HW | refine Below.drew ?_))).mono ?_; rintro e w' ⟨rfl, hb⟩; have HB := hide hb; have y0 := keep1 hb (b := p) (o := _) (v := .string an) k0; have y1 := keep1 hb (b := p) (o := _) (v := .int .i64 ad) k1; have y2 := keep1 hb (b := p) (o := _) (v := .slice au al ac) k2; have z0 := keep1 hb (b := q) (o := _) (v := .string bn) l0; have z1 := keep1 hb (b := q) (o := _) (v := .int .i64 bd) l1; have z2 := keep1 hb (b := q) (o := _) (v := .slice bu bl bc') l2; clear hb))
      all_goals
        go_wp2_with fail
        go_roundw
        case rel => exact ⟨i + 1, by simp, h, by repeat (first | exact unhide HW | refine bc ?_ (unhide HB) | refine Below.drew ?_)⟩
        case measure => simp only [intOf]; omega
    · have i1 : ¬ (i : Int) < (n : Int) := by omega
      have iz : decide ((i : Int) < (n : Int)) = false := decide_eq_false i1
      go_wp2_with fail
      go_ret
      exact ⟨rfl, unhide HW⟩
theorem shop_conv (a b c : Int) (w : World) : Calls Try.prog 9 #[.agg #[.int .i64 a, .int .i64 b, .int .i64 c]] w fun e w' => e = .returned (.agg #[.int .i64 a, .int .i64 b, .int .i64 c]) ∧ Below w.heap.size w w' := by
  go_enter Try.func9, Try.ntmps9
  go_wp2
  exact bodyPost_ret (v := .agg #[.int .i64 a, .int .i64 b, .int .i64 c]) (by simp [results, Try.results9, go_sem]) rfl ⟨rfl, by repeat (first | exact Below.refl _ _ | refine ba ?_ _)⟩
end Go.Proofs.Ytbgekppggakdoaa
