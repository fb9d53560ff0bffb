/-
  What the laws of sketches share: rows held against one another, written over, held.
-/
import Derived.Test.YtbceblgakehpnaaGlue
namespace Go.Proofs.Ytbceblgakehpnaa
open Go.ChangeShapes Go.WideShapes Go.ChangeAt Go.RowKit
set_option linter.unusedVariables false
set_option linter.unusedSimpArgs false

/-- where a slice that came lies -/
def At (w : World) (u : Option Addr) (q n : Nat) (L : List Int) : Prop := n ≠ 0 → u = some ⟨q, 0, none⟩ ∧ q < w.heap.size ∧ IntsAt w q 0 L
theorem At.of_below {B : Nat} {w w' : World} {u : Option Addr} {q n : Nat} {L : List Int} (h : At w u q n L) (hB : w.heap.size ≤ B) (hb : Below w.heap.size w w') : At w' u q n L :=
  fun hn => ⟨(h hn).1, Nat.lt_of_lt_of_le (h hn).2.1 hb.size, (h hn).2.2.below hb (h hn).2.1⟩
theorem Sl.at {w : World} {v : Value} {n : Nat} {L : List Int} (h : Sl w v n L) : ∃ u q cap, v = .slice u n cap ∧ At w u q n L := by
  obtain ⟨u, cap, hv, hf⟩ := h
  by_cases h0 : n = 0
  · exact ⟨u, 0, cap, hv, fun h => absurd h0 h⟩
  · obtain ⟨g, h1, h2, h3⟩ := hf h0
    exact ⟨u, g, cap, hv, fun _ => ⟨h1, h2, h3⟩⟩
theorem rowAt {w : World} {B t k n cap : Nat} {u : Option Addr} {L : List Int} (h : Row w B t k (.slice u n cap) n L) : ∃ q, At w u q n L := by
  obtain ⟨u', q, cap', hv, ha⟩ := h.sl.at
  cases hv
  exact ⟨q, ha⟩
theorem ptR_same (B n cg cv q : Nat) (u v : Option Addr) (P : List Int) (w : World) (hr : Row w B 47 2 (.slice u n cg) n P) (hv : At w v q n P) (hn : n ≤ 100000) :
    Calls Try.prog 14 #[.slice u n cg, .slice v n cv] w fun e w' => e = .returned (.bool true) ∧ Below w.heap.size w w' := by
  obtain ⟨g, hg⟩ := rowAt hr
  exact pt_same u v g 0 q 0 n cg cv P w hr.len (by omega) hg hv
theorem itR_same (B n cg cv q : Nat) (u v : Option Addr) (P : List Int) (w : World) (hr : Row w B 3 1 (.slice u n cg) n P) (hv : At w v q n P) (hn : n ≤ 100000) :
    Calls Try.prog 15 #[.slice u n cg, .slice v n cv] w fun e w' => e = .returned (.bool true) ∧ Below w.heap.size w w' := by
  obtain ⟨g, hg⟩ := rowAt hr
  exact it_same u v g 0 q 0 n cg cv P w hr.len (by omega) hg hv
theorem ptR_held (B n cg : Nat) (u : Option Addr) (c : Int) (w : World) (hn : n ≤ 100000) (c0 : 0 ≤ c) (c1 : c ≤ 1000000) (hr : Row w B 47 2 (.slice u n cg) n (marks c (n * 2))) :
    Calls Try.prog 19 #[.slice u n cg, .int .i64 c] w fun e w' => e = .returned (.int .i64 (c + (n : Int) * 2)) ∧ Same w w' := by
  obtain ⟨g, hg⟩ := rowAt hr
  exact pt_held u g n cg c w (by omega) c0 c1 (fun h => ⟨(hg h).1, (hg h).2.2⟩)
theorem itR_held (B n cg : Nat) (u : Option Addr) (c : Int) (w : World) (hn : n ≤ 100000) (c0 : 0 ≤ c) (c1 : c ≤ 1000000) (hr : Row w B 3 1 (.slice u n cg) n (marks c (n * 1))) :
    Calls Try.prog 20 #[.slice u n cg, .int .i64 c] w fun e w' => e = .returned (.int .i64 (c + (n : Int) * 1)) ∧ Same w w' := by
  obtain ⟨g, hg⟩ := rowAt hr
  exact it_held u g n cg c w (by omega) c0 c1 (fun h => ⟨(hg h).1, (hg h).2.2⟩)
theorem Row.nil_any {w w' : World} {B t k n : Nat} {L : List Int} (h : Row w B t k (.slice none 0 0) n L) : Row w' B t k (.slice none 0 0) n L := by
  refine ⟨h.1, ?_⟩
  rcases h.2 with h1 | ⟨g, cap, cur, hv, r⟩
  · exact .inl h1
  · cases hv
theorem Row.same {w w' : World} {B t k n : Nat} {v : Value} {L : List Int} (h : Row w B t k v n L) (hs : Same w w') : Row w' B t k v n L := h.kept (B' := 0) (fun g _ => by rw [hs.heap])
theorem Row.two {w w' : World} {B t k n g : Nat} {v : Value} {L : List Int} (h : Row w B t k v n L) (hs : Two g g w w') (hB : g < B) : Row w' B t k v n L :=
  h.kept (B' := 0) (fun b hb => by have := World.ownsRow.lt h b hb; exact hs.block b this.2 (by omega) (by omega))
set_option maxHeartbeats 1000000 in
theorem sk_mark (n : Int) (g l c : Nat) (L : List Int) (m : Int) (w : World) (hl : L.length = l * 4) (hn : l ≤ 1048576) (c0 : 0 ≤ m) (c1 : m ≤ 1000000) (hi : iblk w g 52 L) :
    Calls Try.prog 16 #[skv n (some ⟨g, 0, none⟩) l c, .int .i64 m] w fun e w' => e = .returned (.int .i64 (m + (l : Int) * 4)) ∧ Two g g w w' := by
  have HM := hide (fun W (hW : Below w.heap.size w W) => ru_mark (some ⟨g, 0, none⟩) g l c L m W hl (by omega) c0 c1 (fun _ => ⟨rfl, hi.bel hW⟩))
  clear hi hl
  go_enter Try.func16, Try.ntmps16
  go_wp2_with fail
  refine (unhide HM _ (ba (Below.refl _ _) _)).mono ?_
  rintro e W1 ⟨rfl, _, hb⟩
  have HT : Hid (Two g g w W1) := hide ((Two.of_bel (ba (Below.refl _ _) _)).trans ⟨hb.os, hb.tape, hb.output, Nat.le_of_eq hb.size, fun k _ h1 _ => hb.block k h1⟩)
  clear hb
  go_wp2_with fail
  go_ret
  exact ⟨rfl, unhide HT⟩
theorem coreGo_len (bad : List Nat → Bool) : ∀ (k : Nat) (ks : List Nat), (coreGo bad k ks).length ≤ ks.length := by
  intro k
  induction k with
  | zero => intro ks; exact Nat.le_refl _
  | succ k ih =>
    intro ks
    unfold coreGo
    split
    · have h1 := ih (ks.eraseIdx k)
      have h2 : (ks.eraseIdx k).length ≤ ks.length := by rw [List.length_eraseIdx]; split <;> omega
      omega
    · exact ih ks
theorem outN_le (n : Int) (rs : List Ru) : outN n rs ≤ 24 := by
  unfold outN
  split
  · rename_i h
    have := ok_parts h
    split <;> omega
  · omega
theorem outK_le (n : Int) (rs : List Ru) : (outK n rs).length ≤ 60 := by
  unfold outK
  split
  · rename_i h
    have := ok_parts h
    split
    · simp
    · have h2 := coreGo_len (badK n.toNat rs) rs.length (List.range rs.length)
      rw [List.length_range] at h2
      omega
  · simp
end Go.Proofs.Ytbceblgakehpnaa
