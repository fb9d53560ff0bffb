/-
  A right fraction's text is read back, by the program.
-/
import Derived.Test.YtidafleegkofkaaDoorTexts
import Derived.Lib.IndexBytes
import Derived.Lib.AtoiErrMem
namespace Go.Proofs.YtidafleegkofkaaDoor
open Go.ChangeShapes Go.WideShapes Go.ChangeAt Go.RowKit
set_option linter.unusedVariables false
set_option linter.unusedSimpArgs false

set_option maxHeartbeats 400000 in
theorem lite_no (s : ByteArray) (w : World) (H : Hid (Lib.indexByte s.data.toList 47 = -1)) :
    Calls Tryd.prog 29 #[.string s, .string ⟨#[47]⟩] w fun e w' => e = .returned (.tuple #[.string s, .string ⟨#[]⟩, .bool false]) ∧ Below w.heap.size w w' := by
  go_enter Tryd.func29, Tryd.ntmps29
  go_wp2_with fail
  refine (Tryd.stringslite_Index_one s 47 _).mono ?_
  rintro e w1 ⟨rfl, rfl⟩
  rw [unhide H]
  go_wp2
  go_ret3
  exact ⟨rfl, Below.refl _ _⟩

theorem ex_left (A C : ByteArray) : (A ++ (⟨#[47]⟩ ++ C)).extract 0 A.size = A := by
  apply ByteArray.ext
  rw [ByteArray.data_extract, ByteArray.data_append]
  show (A.data ++ _).extract 0 A.data.size = A.data
  simp
theorem ex_right (A C : ByteArray) : (A ++ (⟨#[47]⟩ ++ C)).extract (A.size + 1) (A ++ (⟨#[47]⟩ ++ C)).size = C := by
  apply ByteArray.ext
  rw [ByteArray.data_extract, ByteArray.data_append, ByteArray.data_append]
  have e : (A ++ ((⟨#[47]⟩ : ByteArray) ++ C)).size = (A.data ++ (#[47] ++ C.data)).size := by
    show (A ++ ((⟨#[47]⟩ : ByteArray) ++ C)).data.size = _
    rw [ByteArray.data_append, ByteArray.data_append]
  rw [e]
  show (A.data ++ (#[47] ++ C.data)).extract (A.data.size + 1) _ = C.data
  apply Array.toList_inj.1
  rw [Array.toList_extract]
  simp only [Array.toList_append, List.extract_eq_take_drop, Array.size_append]
  rw [List.drop_append, List.drop_of_length_le (by simp)]
  simp
  rw [show A.size + (1 + C.size) - (A.size + 1) = C.size from by omega]
  exact List.take_of_length_le (by show C.data.toList.length ≤ C.data.size; simp)

set_option maxHeartbeats 400000 in
theorem lite_at (s A C : ByteArray) (k : Nat) (w : World) (hs : s.size ≤ 100) (hk : k + 1 ≤ s.size) (H : Hid (Lib.indexByte s.data.toList 47 = (k : Int))) (HA : Hid (s.extract 0 k = A)) (HC : Hid (s.extract (k + 1) s.size = C)) :
    Calls Tryd.prog 29 #[.string s, .string ⟨#[47]⟩] w fun e w' => e = .returned (.tuple #[.string A, .string C, .bool true]) ∧ Below w.heap.size w w' := by
  go_enter Tryd.func29, Tryd.ntmps29
  go_wp2_with fail
  refine (Tryd.stringslite_Index_one s 47 _).mono ?_
  rintro e w1 ⟨rfl, rfl⟩
  rw [unhide H]
  go_wp2_with fail
  go_quiet (fail)
  go_wp2
  go_ret3
  exact ⟨by rw [← unhide HA, ← unhide HC]; rfl, bel_dn (Below.refl _ _) _⟩

set_option maxHeartbeats 400000 in
theorem cut_calls (s A C : ByteArray) (b : Bool) (w : World) (HL : Hid (∀ W, Calls Tryd.prog 29 #[.string s, .string ⟨#[47]⟩] W fun e w' => e = .returned (.tuple #[.string A, .string C, .bool b]) ∧ Below W.heap.size W w')) :
    Calls Tryd.prog 19 #[.string s, .string ⟨#[47]⟩] w fun e w' => e = .returned (.tuple #[.string A, .string C, .bool b]) ∧ Below w.heap.size w w' := by
  go_enter Tryd.func19, Tryd.ntmps19
  go_wp2_with fail
  refine (unhide HL _).mono ?_
  rintro e w1 ⟨rfl, hb⟩
  have HB := hide hb
  clear hb
  go_wp2
  go_ret3
  exact ⟨rfl, unhide HB⟩

theorem atoi_calls (s : ByteArray) (n : Int) (w : World) (hl : s.size ≤ 18) (h : Lib.atoi s.data.toList = some n) :
    Calls Tryd.prog 20 #[.string s] w fun e w' => e = .returned (.tuple #[.int .i64 n, .nilIface]) ∧ Below w.heap.size w w' := by
  refine (Tryd.strconv_Atoi s n hl h w).mono ?_
  rintro e w' ⟨rfl, t, rfl⟩
  exact ⟨rfl, Lib.bytesWorld_below w 5 t⟩

theorem size18 (n : Int) (h1 : -1000000000 ≤ n) (h2 : n ≤ 1000000000) : (itoaS n).size ≤ 18 := by
  unfold itoaS Lib.itoa
  split
  · have := nd_le 10 n.natAbs (by omega)
    rw [← dec_len] at this
    simp [ByteArray.size]; omega
  · have := nd_le 10 n.toNat (by omega)
    rw [← dec_len] at this
    simp [ByteArray.size]; omega

set_option maxRecDepth 100000 in
set_option maxHeartbeats 1000000 in
theorem read_core (T A C : ByteArray) (b : Bool) (n d : Int) (w : World) (hT : T.size ≤ 100)
    (HC : Hid (∀ W, Calls Tryd.prog 19 #[.string T, .string ⟨#[47]⟩] W fun e w' => e = .returned (.tuple #[.string A, .string C, .bool b]) ∧ Below W.heap.size W w'))
    (HA : Hid (∀ W, Calls Tryd.prog 20 #[.string A] W fun e w' => e = .returned (.tuple #[.int .i64 n, .nilIface]) ∧ Below W.heap.size W w'))
    (HD : Hid (∀ W, Calls Tryd.prog 20 #[.string (if b = true then C else ⟨#[49]⟩)] W fun e w' => e = .returned (.tuple #[.int .i64 d, .nilIface]) ∧ Below W.heap.size W w'))
    (HX : Hid (∀ W, Below w.heap.size w W → Calls Tryd.prog 9 #[.agg #[.int .i64 n, .int .i64 d]] W fun e w' => e = .returned (.tuple #[.string T, .int .i64 0]) ∧ Below W.heap.size W w')) :
    Calls Tryd.prog 10 #[.string T] w fun e w' => e = .returned (.tuple #[.agg #[.int .i64 n, .int .i64 d], .int .i64 0]) ∧ Below w.heap.size w w' := by
  cases b
  all_goals
    simp only [if_true, Bool.false_eq_true, if_false] at HD
    go_enter Tryd.func10, Tryd.ntmps10
    go_wp2_with fail
    refine (unhide HC _).mono ?_
    rintro e w1 ⟨rfl, hb⟩
    have x0 := keep1 hb (b := w.heap.size) (o := 0) (v := .int .i64 0) (by simp [go_sem])
    have x1 := keep1 hb (b := w.heap.size) (o := 1) (v := .int .i64 0) (by simp [go_sem])
    have f0 := keepz hb (b := w.heap.size) (o := 0) (by simp) (by simp [go_sem])
    have f1 := keepz hb (b := w.heap.size) (o := 1) (by simp) (by simp [go_sem])
    have B1 := hide (bel_call (bel_alloc (Below.refl w.heap.size w) _) hb)
    clear hb
    go_wp2_with fail
    refine (unhide HA _).mono ?_
    rintro e w2 ⟨rfl, hb⟩
    have y0 := keep1 hb x0
    have y1 := keep1 hb x1
    have g0 := keepz hb (cell_lt x0) f0
    have g1 := keepz hb (cell_lt x1) f1
    have B2 := hide (bel_call (unhide B1) hb)
    clear hb x0 x1 f0 f1 B1
    go_wp2_with fail
    refine (unhide HD _).mono ?_
    rintro e w3 ⟨rfl, hb⟩
    have z0 := keep1 hb y0
    have z1 := keep1 hb y1
    have h0 := keepz hb (cell_lt y0) g0
    have h1 := keepz hb (cell_lt y1) g1
    have B3 := hide (bel_call (unhide B2) hb)
    have l3 := cell_lt z0
    clear hb y0 y1 g0 g1 B2
    go_wp2_with fail
    refine (unhide HX _ (by exact bel_alloc (unhide B3) _)).mono ?_
    rintro e w4 ⟨rfl, hb⟩
    have u0 := keep1 hb (b := w.heap.size) (o := 0) (v := .int .i64 0) (by simp [go_sem, *])
    have u1 := keep1 hb (b := w.heap.size) (o := 1) (v := .int .i64 0) (by simp [go_sem, *])
    have v0 := keep1 hb (b := w3.heap.size) (o := 0) (v := .int .i64 n) (by simp [go_sem])
    have v1 := keep1 hb (b := w3.heap.size) (o := 1) (v := .int .i64 d) (by simp [go_sem])
    have k0 := keepz hb (b := w.heap.size) (o := 0) (by simp; omega) (by simp [go_sem, *])
    have k1 := keepz hb (b := w.heap.size) (o := 1) (by simp; omega) (by simp [go_sem, *])
    have B4 := hide (bel_call (bel_alloc (unhide B3) _) hb)
    have l4 := cell_lt u0
    have l5 := cell_lt v0
    clear hb z0 z1 h0 h1 B3
    go_wp2
    refine bodyPost_ret (v := .tuple #[.agg #[.int .i64 n, .int .i64 d], .int .i64 0]) (by simp [results, Tryd.results10, go_sem, u0, u1]) rfl ⟨rfl, ?_⟩
    iterate 2 refine Below.setCell ?_ (by simp <;> omega) _
    exact unhide B4

/-- the text of a right fraction is read as that fraction -/
theorem read_right (n d : Int) (w : World) (hok : frOk n d = true) (ht : Tab w.heap.size w) :
    Calls Tryd.prog 10 #[.string (txt n d)] w fun e w' => e = .returned (.tuple #[.agg #[.int .i64 n, .int .i64 d], .int .i64 0]) ∧ Below w.heap.size w w' := by
  obtain ⟨⟨c1, c2⟩, c3, c4⟩ := ok_bd hok
  have sn := size18 n c1 c2
  have sd := size18 d (by omega) c4
  have hx : ∀ W, Below w.heap.size w W → Calls Tryd.prog 9 #[.agg #[.int .i64 n, .int .i64 d]] W fun e w' => e = .returned (.tuple #[.string (txt n d), .int .i64 0]) ∧ Below W.heap.size W w' := fun W hb => by
    have := implText_any n d W (by omega) (by omega) (by omega) (by omega) (hide ht) (hide hb) hb.size
    unfold txAns at this
    rw [if_pos hok] at this
    exact this
  have ha : ∀ W, Calls Tryd.prog 20 #[.string (itoaS n)] W fun e w' => e = .returned (.tuple #[.int .i64 n, .nilIface]) ∧ Below W.heap.size W w' := fun W => atoi_calls _ n W sn (by simpa [itoaS] using atoi_itoa n)
  by_cases hd : 1 < d
  · have e : txt n d = itoaS n ++ (⟨#[47]⟩ ++ itoaS d) := by unfold txt; rw [if_pos hd]
    have hl : (txt n d).data.toList = Lib.itoa n ++ 47 :: Lib.itoa d := by rw [e]; simp [itoaS]
    have hi : Lib.indexByte (txt n d).data.toList 47 = ((itoaS n).size : Int) := by
      rw [← Lib.index_one, hl, index_at _ _ (itoa_noslash n)]
      rfl
    have hsz : (txt n d).size = (itoaS n).size + 1 + (itoaS d).size := by
      show (txt n d).data.size = _
      rw [← Array.length_toList, hl]
      simp [itoaS, ByteArray.size]
      omega
    refine read_core (txt n d) (itoaS n) (itoaS d) true n d w (by omega) (hide fun W => cut_calls _ _ _ _ W (hide fun W' => lite_at (txt n d) (itoaS n) (itoaS d) (itoaS n).size W' (by omega) (by omega) (hide hi) (hide (by rw [e]; exact ex_left _ _)) (hide (by rw [e]; exact ex_right _ _)))) (hide ha) (hide fun W => ?_) (hide hx)
    rw [if_pos rfl]
    exact atoi_calls _ d W sd (by simpa [itoaS] using atoi_itoa d)
  · have e : txt n d = itoaS n := by unfold txt; rw [if_neg hd]
    have hd1 : d = 1 := by omega
    rw [e] at hx ⊢
    have hi : Lib.indexByte (itoaS n).data.toList 47 = -1 := by
      rw [← Lib.index_one]
      have : (itoaS n).data.toList = Lib.itoa n := by simp [itoaS]
      rw [this]
      exact index_no _ (itoa_noslash n)
    refine read_core (itoaS n) (itoaS n) ⟨#[]⟩ false n d w (by omega) (hide fun W => cut_calls _ _ _ _ W (hide fun W' => lite_no (itoaS n) W' (hide hi))) (hide ha) (hide fun W => ?_) (hide hx)
    rw [if_neg (by decide), hd1]
    exact atoi_calls ⟨#[49]⟩ 1 W (by decide) (by decide)
end Go.Proofs.YtidafleegkofkaaDoor
