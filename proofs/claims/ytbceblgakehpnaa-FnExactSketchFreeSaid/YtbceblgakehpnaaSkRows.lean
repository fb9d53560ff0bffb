/-
  What the laws ask of sketches: how great one is, that it is made of another, that two are the same.
-/
import Derived.Test.YtbceblgakehpnaaRuRows
import Derived.Test.YtbceblgakehpnaaOkP
namespace Go.Proofs.Ytbceblgakehpnaa
open Go.ChangeShapes Go.WideShapes Go.ChangeAt Go.RowKit
set_option linter.unusedVariables false
set_option linter.unusedSimpArgs false

theorem bel_iblk {w w' : World} (hb : Below w.heap.size w w') {g t : Nat} {L : List Int} (h : iblk w g t L) : iblk w' g t L := h.bel hb
/-- the numbers in fours -/
def toRus (L : List Int) (n : Nat) : List Ru := (List.range n).map fun i => (L.getD (i * 4) 0, L.getD (i * 4 + 1) 0, L.getD (i * 4 + 2) 0, L.getD (i * 4 + 3) 0)
theorem toRus_len (L : List Int) (n : Nat) : (toRus L n).length = n := by simp [toRus]
theorem rusAt_of {w : World} {g : Nat} {L : List Int} {n : Nat} (h : iblk w g 52 L) (hl : L.length = n * 4) : RusAt w g 0 (toRus L n) := by
  intro j p hj
  have hjn : j < n := by
    have := (List.getElem?_eq_some_iff.1 hj).1
    simpa [toRus] using this
  unfold toRus at hj
  rw [List.getElem?_map, List.getElem?_range hjn] at hj
  simp only [Option.map_some, Option.some.injEq] at hj
  rw [← hj, Nat.zero_add]
  have hx : ∀ f, f < 4 → L[j * 4 + f]? = some (L.getD (j * 4 + f) 0) := fun f hf => by rw [List.getD_eq_getElem?_getD, List.getElem?_eq_getElem (by omega)]; rfl
  exact ⟨h.cell (hx 0 (by omega)), h.cell (hx 1 (by omega)), h.cell (hx 2 (by omega)), h.cell (hx 3 (by omega))⟩

theorem sk_sz_in (n : Int) (u : Option Addr) (l c : Nat) (m : Int) (w : World) (hc : m ≤ 1048576) (hn : (l : Int) ≤ m) :
    Calls Try.prog 7 #[skv n u l c, .int .i64 m] w fun e w' => e = .returned (.int .i64 (m - l)) ∧ Below w.heap.size w w' := by
  have HS := hide (fun W => ru_sz_in u l c m W hc hn)
  have t : decide (m - (l : Int) < 0) = false := decide_eq_false (by omega)
  go_enter Try.func7, Try.ntmps7
  go_wp2_with fail
  refine (unhide HS _).mono ?_
  rintro e W1 ⟨rfl, rfl⟩
  go_wp2_with fail
  go_ret
  exact ⟨rfl, ba (Below.refl _ _) _⟩
theorem sk_sz_out (n : Int) (u : Option Addr) (l c : Nat) (m : Int) (w : World) (hc0 : -1 ≤ m) (hc : m ≤ 1048576) (hn : m < (l : Int)) (hm : l ≤ 9223372036854775807) :
    Calls Try.prog 7 #[skv n u l c, .int .i64 m] w fun e w' => e = .returned (.int .i64 (-1)) ∧ Below w.heap.size w w' := by
  have HS := hide (fun W => ru_sz_out u l c m W hc0 hc hn hm)
  go_enter Try.func7, Try.ntmps7
  go_wp2_with fail
  refine (unhide HS _).mono ?_
  rintro e W1 ⟨rfl, rfl⟩
  go_wp2_with fail
  go_ret
  exact ⟨rfl, ba (Below.refl _ _) _⟩
set_option maxHeartbeats 1000000 in
theorem sk_to (n : Int) (u : Option Addr) (p po l c : Nat) (L : List Int) (w : World) (hl : L.length = l * 4) (hn : l ≤ 1048576)
    (hu : l ≠ 0 → u = some ⟨p, po, none⟩ ∧ p < w.heap.size ∧ IntsAt w p po L) :
    Calls Try.prog 9 #[skv n u l c] w fun e w' => (∃ g, e = .returned (skv n (some ⟨g, 0, none⟩) l l) ∧ w.heap.size ≤ g ∧ iblk w' g 52 L) ∧ Below w.heap.size w w' := by
  have HT := hide (fun W (hW : Below w.heap.size w W) => ru_to u p po l c L W hl hn (fun h => ⟨(hu h).1, Nat.lt_of_lt_of_le (hu h).2.1 hW.size, (hu h).2.2.below hW (hu h).2.1⟩))
  clear hu hl
  go_enter Try.func9, Try.ntmps9
  go_wp2_with fail
  refine (unhide HT _ (by repeat (first | exact Below.refl _ _ | refine ba ?_ _ | refine Below.setCell ?_ (by simp) _))).mono ?_
  rintro e W1 ⟨⟨g, rfl, hg, hk⟩, hb⟩
  have m0 : W1.cell? ⟨w.heap.size + 2, 0, none⟩ = some (.int .i64 n) := keep1 hb (by simp [go_sem])
  have m1 : W1.cell? ⟨w.heap.size + 2, 1, none⟩ = some (.slice none 0 0) := keep1 hb (by simp [go_sem])
  have r0 : W1.cell? ⟨w.heap.size + 1, 0, none⟩ = some (.int .i64 0) := keep1 hb (by simp [go_sem])
  have r1 : W1.cell? ⟨w.heap.size + 1, 1, none⟩ = some (.slice none 0 0) := keep1 hb (by simp [go_sem])
  have z1 : W1.frozen? ⟨w.heap.size + 2, 1, none⟩ = false := keepz hb (by simp) (by simp [go_sem])
  have y0 : W1.frozen? ⟨w.heap.size + 1, 0, none⟩ = false := keepz hb (by simp) (by simp [go_sem])
  have y1 : W1.frozen? ⟨w.heap.size + 1, 1, none⟩ = false := keepz hb (by simp) (by simp [go_sem])
  have hg3 : w.heap.size + 3 ≤ g := by simpa using hg
  have hb3 : Below w.heap.size w W1 := bc (ba (ba (ba (Below.refl _ _) _) _) _) hb
  have HK := hide hk
  have HB := hide hb3
  have HG := hide hg3
  clear hk hb hb3 hg hg3
  go_wp2_with fail
  refine bodyPost_ret (v := skv n (some ⟨g, 0, none⟩) l l) (by simp [results, Try.results9, go_sem, r0, r1]) rfl ⟨⟨g, rfl, by have := unhide HG; omega, ?_⟩, ?_⟩
  · have hg := unhide HG
    have h1 := unhide HK
    unfold iblk at h1 ⊢
    rw [Below.heap_setCell _ _ _ _ (by simp; omega), Below.heap_setCell _ _ _ _ (by simp; omega), Below.heap_setCell _ _ _ _ (by simp; omega)]
    exact h1
  · exact Below.setCell (Below.setCell (Below.setCell (unhide HB) (by simp; omega) _) (by simp) _) (by simp) _
theorem sk_same (n : Int) (u v : Option Addr) (p po q qo l cu cv : Nat) (L : List Int) (w : World) (hl : L.length = l * 4) (hn : l ≤ 4611686018427387904)
    (hu : l ≠ 0 → u = some ⟨p, po, none⟩ ∧ p < w.heap.size ∧ IntsAt w p po L) (hv : l ≠ 0 → v = some ⟨q, qo, none⟩ ∧ q < w.heap.size ∧ IntsAt w q qo L) :
    Calls Try.prog 11 #[skv n u l cu, skv n v l cv] w fun e w' => e = .returned (.bool true) ∧ Below w.heap.size w w' := by
  have HT := hide (fun W (hW : Below w.heap.size w W) => ru_same u v p po q qo l cu cv L W hl hn (fun h => ⟨(hu h).1, Nat.lt_of_lt_of_le (hu h).2.1 hW.size, (hu h).2.2.below hW (hu h).2.1⟩) (fun h => ⟨(hv h).1, Nat.lt_of_lt_of_le (hv h).2.1 hW.size, (hv h).2.2.below hW (hv h).2.1⟩))
  clear hu hv hl
  go_enter Try.func11, Try.ntmps11
  go_wp2_with fail
  refine (unhide HT _ (ba (ba (Below.refl _ _) _) _)).mono ?_
  rintro e W1 ⟨rfl, hb⟩
  have HB := hide (bc (ba (ba (Below.refl _ _) _) _) hb)
  clear hb
  go_wp2_with fail
  go_ret
  exact ⟨rfl, unhide HB⟩
end Go.Proofs.Ytbceblgakehpnaa
