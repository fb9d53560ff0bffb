/-
  The program's ReadFrac: the text of a right fraction is read as that fraction; a text that is none is ErrSyntax; a text beyond 65536 bytes is ErrLong.
-/
import Derived.Test.YtidafleegkofkaiDoorReadsB
namespace Go.Proofs.YtidafleegkofkaiDoor
open Go.ChangeShapes Go.WideShapes Go.ChangeAt Go.RowKit
set_option linter.unusedVariables false
set_option linter.unusedSimpArgs false

/-- the text of a right fraction is read as that fraction -/
theorem impRead_right (n d : Int) (w : World) (hok : frOk n d = true) (ht : Tab w.heap.size w) :
    Calls Tryd.prog 9 #[.string (txt n d)] w fun e w' => e = .returned (.tuple #[.agg #[.int .i64 n, .int .i64 d], .int .i64 0]) ∧ Below w.heap.size w w' := by
  obtain ⟨⟨c1, c2⟩, c3, c4⟩ := ok_bd hok
  have sn := size18 n c1 c2
  have sd := size18 d (by omega) c4
  have hx : ∀ W, Below w.heap.size w W → Calls Tryd.prog 7 #[.agg #[.int .i64 n, .int .i64 d]] W fun e w' => e = .returned (.tuple #[.string (txt n d), .int .i64 0]) ∧ Below W.heap.size W w' := fun W hb => by
    have := implText_any n d W (by omega) (by omega) (by omega) (by omega) (hide ht) (hide hb) hb.size
    unfold txAns at this
    rw [if_pos hok] at this
    exact this
  have ha : ∀ W, Below w.heap.size w W → Calls Tryd.prog 18 #[.string (itoaS n)] W fun e w' => e = .returned (.tuple #[.int .i64 n, .nilIface]) ∧ Below W.heap.size W w' := fun W _ => atoi_exact _ n W sn (by simpa [itoaS] using atoi_itoa n)
  by_cases hd : 1 < d
  · have e : txt n d = itoaS n ++ (⟨#[47]⟩ ++ itoaS d) := by unfold txt; rw [if_pos hd]
    have hl : (txt n d).data.toList = Lib.itoa n ++ 47 :: Lib.itoa d := by rw [e]; simp [itoaS]
    have hi : Lib.indexByte (txt n d).data.toList 47 = ((itoaS n).size : Int) := by
      rw [← Lib.index_one, hl, index_at _ _ (itoa_noslash n)]
      rfl
    have hsz : (txt n d).size = (itoaS n).size + 1 + (itoaS d).size := by
      show (txt n d).data.size = _
      rw [← Array.length_toList, hl]
      simp [itoaS, ByteArray.size]
      omega
    refine read_core (txt n d) (itoaS n) (itoaS d) true n d w (by omega) (hide fun W => cut_calls _ _ _ _ W (hide fun W' => lite_at (txt n d) (itoaS n) (itoaS d) (itoaS n).size W' (by omega) (by omega) (hide hi) (hide (by rw [e]; exact ex_left _ _)) (hide (by rw [e]; exact ex_right _ _)))) (hide ha) (hide fun W _ => ?_) (hide hx)
    rw [if_pos rfl]
    exact atoi_exact _ d W sd (by simpa [itoaS] using atoi_itoa d)
  · have e : txt n d = itoaS n := by unfold txt; rw [if_neg hd]
    have hd1 : d = 1 := by omega
    rw [e] at hx ⊢
    have hi : Lib.indexByte (itoaS n).data.toList 47 = -1 := by
      rw [← Lib.index_one]
      have : (itoaS n).data.toList = Lib.itoa n := by simp [itoaS]
      rw [this]
      exact index_no _ (itoa_noslash n)
    refine read_core (itoaS n) (itoaS n) ⟨#[]⟩ false n d w (by omega) (hide fun W => cut_calls _ _ _ _ W (hide fun W' => lite_no (itoaS n) W' (hide hi))) (hide ha) (hide fun W _ => ?_) (hide hx)
    rw [if_neg (by decide), hd1]
    exact atoi_exact ⟨#[49]⟩ 1 W (by decide) (by decide)

/-- a text of no right fraction -/
theorem impRead_none (T : ByteArray) (w : World) (hT : T.size ≤ 65536) (hno : ∀ n d, frOk n d = true → txt n d ≠ T) (ht : Tab w.heap.size w) (hS : Sent w.heap.size w) :
    Calls Tryd.prog 9 #[.string T] w fun e w' => e = .returned (.tuple #[.agg #[.int .i64 0, .int .i64 0], .int .i64 4]) ∧ Below w.heap.size w w' := by
  obtain ⟨A, C, b, hA, hC, hcut⟩ := cut_some T hT
  have hD : (if b = true then C else (⟨#[49]⟩ : ByteArray)).size ≤ 65536 := by
    split
    · exact hC
    · show 1 ≤ 65536; omega
  rcases atoi_some A hA hS with ⟨n, hn, ha⟩ | ⟨n, ha⟩
  · rcases atoi_some _ hD hS with ⟨d, hd, hd2⟩ | ⟨d, hd2⟩
    · have hx := fun W (hb : Below w.heap.size w W) => implText_any n d W hn.1 hn.2 hd.1 hd.2 (hide ht) (hide hb) hb.size
      unfold txAns at hx
      by_cases hok : frOk n d = true
      · rw [if_pos hok] at hx
        exact read_other T A C (txt n d) b n d 0 w hT (hide fun _ => (Lib.bytes_beq_false_iff _ _).2 (hno n d hok)) (hide hcut) (hide ha) (hide hd2) (hide hx)
      · rw [if_neg hok] at hx
        exact read_other T A C ⟨#[]⟩ b n d 1 w hT (hide fun h => absurd h (by decide)) (hide hcut) (hide ha) (hide hd2) (hide hx)
    · exact read_err_low T A C b n d w hT (hide hcut) (hide ha) (hide hd2)
  · rcases atoi_some _ hD hS with ⟨d, hd, hd2⟩ | ⟨d, hd2⟩
    · exact read_err_top T A C b n d w hT (hide hcut) (hide ha) (hide hd2)
    · exact read_err_both T A C b n d w hT (hide hcut) (hide ha) (hide hd2)

set_option maxHeartbeats 400000 in
theorem impRead_long (T : ByteArray) (w : World) (hT : 65536 < T.size) (hT2 : T.size ≤ 1048576) :
    Calls Tryd.prog 9 #[.string T] w fun e w' => e = .returned (.tuple #[.agg #[.int .i64 0, .int .i64 0], .int .i64 2]) ∧ Below w.heap.size w w' := by
  go_enter Tryd.func9, Tryd.ntmps9
  go_wp2
  refine bodyPost_ret (v := .tuple #[.agg #[.int .i64 0, .int .i64 0], .int .i64 2]) (by simp [results, Tryd.results9, go_sem]) rfl ⟨rfl, ?_⟩
  exact bel_alloc (Below.refl _ _) _
end Go.Proofs.YtidafleegkofkaiDoor
