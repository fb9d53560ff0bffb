/-
  What the model reads as a number, at every text of at most 65536 bytes: some number and a word; of a numeral the very one.
-/
import Derived.Test.YtidafleegkofkaiDoorNumbers
namespace Go.Proofs.YtidafleegkofkaiDoor
open Go.ChangeShapes Go.WideShapes Go.ChangeAt Go.RowKit
set_option linter.unusedVariables false
set_option linter.unusedSimpArgs false

set_option maxRecDepth 100000 in
set_option maxHeartbeats 1000000 in
theorem num_short (s : ByteArray) (w : World) (h : s.size = 0) :
    Calls Tryd.prog 16 #[.string s] w fun e w' => e = .returned (.tuple #[.int .i64 0, .bool false]) ∧ w' = w := by
  have p0 : decide ((0 : Int) < (s.size : Int)) = false := decide_eq_false (by omega)
  have p2 : ((s.size : Int) == 0) = true := by rw [beq_iff_eq]; omega
  clear h
  go_enter Tryd.func16, Tryd.ntmps16
  go_wp2
  go_ret2
  exact ⟨rfl, rfl⟩

set_option maxRecDepth 100000 in
set_option maxHeartbeats 1000000 in
theorem num_long (s : ByteArray) (w : World) (h : 18 < s.size) (hs : s.size ≤ 65536) (hneg : ((s[0]'(by omega)).toNat : Int) ≠ 45) :
    Calls Tryd.prog 16 #[.string s] w fun e w' => e = .returned (.tuple #[.int .i64 0, .bool false]) ∧ w' = w := by
  have p0 : decide ((0 : Int) < (s.size : Int)) = true := decide_eq_true (by omega)
  have p1 : (((s[0]'(by omega)).toNat : Int) == 45) = false := by rw [beq_eq_false_iff_ne]; exact hneg
  have p2 : ((s.size : Int) == 0) = false := by rw [beq_eq_false_iff_ne]; omega
  have p3 : decide ((18 : Int) < (s.size : Int)) = true := decide_eq_true (by omega)
  clear hneg
  go_enter Tryd.func16, Tryd.ntmps16
  go_wp2
  go_ret2
  exact ⟨rfl, rfl⟩

set_option maxRecDepth 100000 in
set_option maxHeartbeats 1000000 in
theorem num_nought (s : ByteArray) (w : World) (h : 1 < s.size) (hs : s.size ≤ 18) (hz : (s[0]'(by omega)).toNat = 48) :
    Calls Tryd.prog 16 #[.string s] w fun e w' => e = .returned (.tuple #[.int .i64 0, .bool false]) ∧ w' = w := by
  have p0 : decide ((0 : Int) < (s.size : Int)) = true := decide_eq_true (by omega)
  have p1 : (((s[0]'(by omega)).toNat : Int) == 45) = false := by rw [beq_eq_false_iff_ne]; omega
  have p2 : ((s.size : Int) == 0) = false := by rw [beq_eq_false_iff_ne]; omega
  have p3 : decide ((18 : Int) < (s.size : Int)) = false := decide_eq_false (by omega)
  have p4 : (((s[0]'(by omega)).toNat : Int) == 48) = true := by rw [beq_iff_eq]; omega
  have p5 : decide ((1 : Int) < (s.size : Int)) = true := decide_eq_true (by omega)
  clear hz
  go_enter Tryd.func16, Tryd.ntmps16
  go_wp2
  go_ret2
  exact ⟨rfl, rfl⟩

set_option maxRecDepth 100000 in
set_option maxHeartbeats 1000000 in
theorem neg_short (s u : ByteArray) (w : World) (h1 : 1 ≤ s.size) (hs : s.size ≤ 65536) (hneg : (s[0]'(by omega)).toNat = 45) (hu : s.extract 1 s.size = u) (hz : u.size = 0) :
    Calls Tryd.prog 16 #[.string s] w fun e w' => e = .returned (.tuple #[.int .i64 0, .bool false]) ∧ w' = w := by
  have p0 : decide ((0 : Int) < (s.size : Int)) = true := decide_eq_true (by omega)
  have p1 : (((s[0]'(by omega)).toNat : Int) == 45) = true := by rw [beq_iff_eq]; omega
  have p2 : ((u.size : Int) == 0) = true := by rw [beq_iff_eq]; omega
  clear hneg hz
  go_enter Tryd.func16, Tryd.ntmps16
  go_wp2
  go_ret2
  exact ⟨rfl, rfl⟩

set_option maxRecDepth 100000 in
set_option maxHeartbeats 1000000 in
theorem neg_long (s u : ByteArray) (w : World) (h1 : 1 ≤ s.size) (hs : s.size ≤ 65536) (hneg : (s[0]'(by omega)).toNat = 45) (hu : s.extract 1 s.size = u) (h : 18 < u.size) :
    Calls Tryd.prog 16 #[.string s] w fun e w' => e = .returned (.tuple #[.int .i64 0, .bool false]) ∧ w' = w := by
  have p0 : decide ((0 : Int) < (s.size : Int)) = true := decide_eq_true (by omega)
  have p1 : (((s[0]'(by omega)).toNat : Int) == 45) = true := by rw [beq_iff_eq]; omega
  have p2 : ((u.size : Int) == 0) = false := by rw [beq_eq_false_iff_ne]; omega
  have p3 : decide ((18 : Int) < (u.size : Int)) = true := decide_eq_true (by omega)
  clear hneg
  go_enter Tryd.func16, Tryd.ntmps16
  go_wp2
  go_ret2
  exact ⟨rfl, rfl⟩

set_option maxRecDepth 100000 in
set_option maxHeartbeats 1000000 in
theorem neg_nought (s u : ByteArray) (w : World) (h1 : 1 ≤ s.size) (hs : s.size ≤ 65536) (hneg : (s[0]'(by omega)).toNat = 45) (hu : s.extract 1 s.size = u) (h2 : 1 ≤ u.size) (h3 : u.size ≤ 18) (hz : (u[0]'(by omega)).toNat = 48) :
    Calls Tryd.prog 16 #[.string s] w fun e w' => e = .returned (.tuple #[.int .i64 0, .bool false]) ∧ w' = w := by
  have p0 : decide ((0 : Int) < (s.size : Int)) = true := decide_eq_true (by omega)
  have p1 : (((s[0]'(by omega)).toNat : Int) == 45) = true := by rw [beq_iff_eq]; omega
  have p2 : ((u.size : Int) == 0) = false := by rw [beq_eq_false_iff_ne]; omega
  have p3 : decide ((18 : Int) < (u.size : Int)) = false := decide_eq_false (by omega)
  have p4 : (((u[0]'(by omega)).toNat : Int) == 48) = true := by rw [beq_iff_eq]; omega
  clear hneg hz
  by_cases h5 : 1 < u.size
  · have p5 : decide ((1 : Int) < (u.size : Int)) = true := decide_eq_true (by omega)
    go_enter Tryd.func16, Tryd.ntmps16
    go_wp2
    go_ret2
    exact ⟨rfl, rfl⟩
  · have p5 : decide ((1 : Int) < (u.size : Int)) = false := decide_eq_false (by omega)
    go_enter Tryd.func16, Tryd.ntmps16
    go_wp2
    go_ret2
    exact ⟨rfl, rfl⟩

set_option maxRecDepth 100000 in
set_option maxHeartbeats 1000000 in
/-- the loop over the digits, behind a sign -/
theorem neg_plain (s u : ByteArray) (w : World) (h0 : 1 ≤ s.size) (hs : s.size ≤ 65536) (hneg : (s[0]'(by omega)).toNat = 45) (hu : s.extract 1 s.size = u) (h1 : 1 ≤ u.size) (h2 : u.size ≤ 18) (hz : (u[0]'(by omega)).toNat ≠ 48) :
    Calls Tryd.prog 16 #[.string s] w fun e w' => NumPost u (fun m => -(m : Int)) e ∧ w' = w := by
  have p0 : decide ((0 : Int) < (s.size : Int)) = true := decide_eq_true (by omega)
  have p1 : (((s[0]'(by omega)).toNat : Int) == 45) = true := by rw [beq_iff_eq]; omega
  have p2 : ((u.size : Int) == 0) = false := by rw [beq_eq_false_iff_ne]; omega
  have p3 : decide ((18 : Int) < (u.size : Int)) = false := decide_eq_false (by omega)
  have hc0 : (u[0]'(by omega)).toNat < 256 := UInt8.toNat_lt _
  have p4 : (((u[0]'(by omega)).toNat : Int) == 48) = false := by rw [beq_eq_false_iff_ne]; omega
  clear hz hneg
  go_enter Tryd.func16, Tryd.ntmps16
  go_wp2
  go_loop [5, 6] (fun n i => ∃ k v : Nat, i = .int .i64 (k : Int) ∧ n = .int .i64 (v : Int) ∧ k ≤ u.size ∧ Lib.decFrom 0 (u.data.toList.take k) = some v) (fun _ i => u.size - (intOf i).toNat)
  case atStart => exact ⟨0, 0, rfl, rfl, by omega, rfl⟩
  case round =>
    obtain ⟨k, v, rfl, rfl, hk, hv⟩ := hrel
    have HV := hide hv
    have hvb := take_lt u k v h2 hk hv
    clear hv
    by_cases hlt : k < u.size
    · have hc : (u[k]'hlt).toNat < 256 := UInt8.toNat_lt _
      by_cases c1 : (u[k]'hlt).toNat < 48
      · have e1 : decide (((u[k]'hlt).toNat : Int) < 48) = true := decide_eq_true (by omega)
        have HN := hide (no_dig u k hlt (Or.inl c1))
        go_wp2
        go_ret2
        exact ⟨numPost 0 false rfl (by omega) (fun m hm => absurd hm (unhide HN m)), rfl⟩
      · have e1 : decide (((u[k]'hlt).toNat : Int) < 48) = false := decide_eq_false (by omega)
        by_cases c2 : 57 < (u[k]'hlt).toNat
        · have e2 : decide ((57 : Int) < ((u[k]'hlt).toNat : Int)) = true := decide_eq_true (by omega)
          have HN := hide (no_dig u k hlt (Or.inr c2))
          go_wp2
          go_ret2
          exact ⟨numPost 0 false rfl (by omega) (fun m hm => absurd hm (unhide HN m)), rfl⟩
        · have e2 : decide ((57 : Int) < ((u[k]'hlt).toNat : Int)) = false := decide_eq_false (by omega)
          have HN := hide (take_step u k v hlt (by omega) (by omega) (unhide HV))
          go_wp2
          go_round
          case rel => exact ⟨k + 1, v * 10 + ((u[k]'hlt).toNat - 48), by go_num, by first | go_num | (congr 1; omega), by omega, unhide HN⟩
          case measure => simp [intOf]; omega
    · have HN := hide (take_all u k v (by omega) (unhide HV))
      go_wp2
      go_ret2
      exact ⟨numPost (-(v : Int)) true (by first | rfl | (congr 3; omega)) (by omega) (fun m hm => ⟨by rw [unhide HN m hm], rfl⟩), rfl⟩

/-- no numeral begins with a nought, but the nought -/
theorem dec_head (f : Nat) : ∀ m : Nat, m ≤ f → 1 ≤ m → ∀ r, Lib.decDigits m ≠ 48 :: r := by
  induction f with
  | zero => intro m h h1; omega
  | succ f ih =>
    intro m h h1 r e
    by_cases h0 : m < 10
    · rw [dec_small m h0] at e
      have e2 : UInt8.ofNat (48 + m) = 48 := (List.cons.inj e).1
      have := byte_val m h0
      rw [e2] at this
      revert this
      show (48 : Nat) = 48 + m → False
      omega
    · rw [dec_big m h0] at e
      cases hd : Lib.decDigits (m / 10) with
      | nil => exact dec_ne _ hd
      | cons b t =>
        rw [hd] at e
        have e2 : b = 48 := (List.cons.inj e).1
        exact ih (m / 10) (by omega) (by omega) t (by rw [hd, e2])

/-- a numeral's text: no sign and its digits, or a sign and the digits -/
theorem itoa_cases (n : Int) (s : ByteArray) (h : s = itoaS n) : (0 ≤ n ∧ s.data.toList = Lib.decDigits n.toNat) ∨ (n < 0 ∧ s.data.toList = 45 :: Lib.decDigits n.natAbs) := by
  subst h
  unfold itoaS Lib.itoa
  by_cases hn : n < 0
  · exact Or.inr ⟨hn, by simp [hn]⟩
  · exact Or.inl ⟨by omega, by simp [hn]⟩
theorem at0 (s : ByteArray) (b : UInt8) (r : List UInt8) (h : s.data.toList = b :: r) (h0 : 0 < s.size) : s[0]'h0 = b := by
  have := at_list s 0 h0
  rw [h] at this
  exact (Option.some.inj this).symm
theorem tail_list (s : ByteArray) (b : UInt8) (r : List UInt8) (h : s.data.toList = b :: r) : (s.extract 1 s.size).data.toList = r := by
  have hsz : s.size = r.length + 1 := by
    show s.data.size = _
    rw [← Array.length_toList, h]; simp
  rw [ByteArray.data_extract, Array.toList_extract, h, hsz]
  simp [List.extract_eq_take_drop]

/-- what the model reads as a number -/
def NumAll (s : ByteArray) (e : Ending) : Prop := ∃ (r : Int) (ok : Bool), e = .returned (.tuple #[.int .i64 r, .bool ok]) ∧ (-1000000000000000000 ≤ r ∧ r ≤ 1000000000000000000) ∧ (∀ n : Int, (-1000000000 ≤ n ∧ n ≤ 1000000000) → s = itoaS n → r = n ∧ ok = true)
theorem itoa_len (n : Int) (h1 : -1000000000 ≤ n) (h2 : n ≤ 1000000000) : (itoaS n).size ≤ 12 ∧ 1 ≤ (itoaS n).size := by
  have e : (itoaS n).size = (itoaS n).data.toList.length := by rw [Array.length_toList]; rfl
  rw [e]
  rcases itoa_cases n _ rfl with ⟨h3, h4⟩ | ⟨h3, h4⟩
  · have h5 := nd_le 10 n.toNat (by omega)
    have h6 := List.length_pos_iff.2 (dec_ne n.toNat)
    rw [← dec_len] at h5
    rw [h4]
    omega
  · have h5 := nd_le 10 n.natAbs (by omega)
    rw [← dec_len] at h5
    rw [h4, List.length_cons]
    exact ⟨Nat.succ_le_succ h5, Nat.succ_le_succ (Nat.zero_le _)⟩

theorem num_any (s : ByteArray) (w : World) (hs : s.size ≤ 65536) : Calls Tryd.prog 16 #[.string s] w fun e w' => NumAll s e ∧ w' = w := by
  have fals : ∀ e w', (e = .returned (.tuple #[.int .i64 0, .bool false]) ∧ w' = w) → (∀ n : Int, (-1000000000 ≤ n ∧ n ≤ 1000000000) → s ≠ itoaS n) → NumAll s e ∧ w' = w := by
    rintro e w' ⟨rfl, rfl⟩ h
    exact ⟨⟨0, false, rfl, by omega, fun n hn e => absurd e (h n hn)⟩, rfl⟩
  by_cases h0 : s.size = 0
  · refine (num_short s w h0).mono fun e w' h => fals e w' h ?_
    rintro n hn rfl
    have := itoa_len n hn.1 hn.2
    omega
  · have hp : 0 < s.size := by omega
    by_cases hneg : (s[0]'hp).toNat = 45
    · have hu : ∃ u, s.extract 1 s.size = u := ⟨_, rfl⟩
      obtain ⟨u, hu⟩ := hu
      have husz : u.size = s.size - 1 := by rw [← hu, ByteArray.size_extract]; omega
      -- a numeral with this head is a negative one, and u has its digits
      have key : ∀ n : Int, (-1000000000 ≤ n ∧ n ≤ 1000000000) → s = itoaS n → n < 0 ∧ u.data.toList = Lib.decDigits n.natAbs := by
        intro n hn e
        rcases itoa_cases n s e with ⟨h1, h2⟩ | ⟨h1, h2⟩
        · exfalso
          cases hd : Lib.decDigits n.toNat with
          | nil => exact dec_ne _ hd
          | cons b r =>
            have h3 := at0 s b r (by rw [h2, hd]) hp
            have h4 := dec_bytes n.toNat n.toNat (Nat.le_refl _) b (by rw [hd]; simp)
            rw [h3] at hneg
            omega
        · exact ⟨h1, by rw [← hu]; exact tail_list s 45 _ h2⟩
      by_cases hu0 : u.size = 0
      · refine (neg_short s u w (by omega) hs hneg hu hu0).mono fun e w' h => fals e w' h ?_
        intro n hn e
        have := (key n hn e).2
        have h3 : u.data.toList.length = 0 := by rw [Array.length_toList]; exact hu0
        rw [this] at h3
        exact dec_ne _ (List.length_eq_zero_iff.1 h3)
      · by_cases hu18 : 18 < u.size
        · refine (neg_long s u w (by omega) hs hneg hu hu18).mono fun e w' h => fals e w' h ?_
          rintro n hn rfl
          have := itoa_len n hn.1 hn.2
          omega
        · have hup : 0 < u.size := by omega
          by_cases hz : (u[0]'hup).toNat = 48
          · refine (neg_nought s u w (by omega) hs hneg hu (by omega) (by omega) hz).mono fun e w' h => fals e w' h ?_
            intro n hn e
            obtain ⟨k1, k2⟩ := key n hn e
            cases hd : Lib.decDigits n.natAbs with
            | nil => exact dec_ne _ hd
            | cons b r =>
              have h3 := at0 u b r (by rw [k2, hd]) hup
              rw [h3] at hz
              have hb : b = 48 := UInt8.toNat_inj.1 hz
              exact dec_head n.natAbs n.natAbs (Nat.le_refl _) (by omega) r (by rw [hd, hb])
          · refine (neg_plain s u w (by omega) hs hneg hu (by omega) (by omega) hz).mono ?_
            rintro e w' ⟨⟨r, ok, rfl, hr, hm⟩, rfl⟩
            refine ⟨⟨r, ok, rfl, hr, fun n hn e => ?_⟩, rfl⟩
            obtain ⟨k1, k2⟩ := key n hn e
            obtain ⟨h1, h2⟩ := hm n.natAbs k2
            exact ⟨by rw [h1]; show -((n.natAbs : Nat) : Int) = n; omega, h2⟩
    · have hneg' : ((s[0]'hp).toNat : Int) ≠ 45 := by omega
      have key : ∀ n : Int, (-1000000000 ≤ n ∧ n ≤ 1000000000) → s = itoaS n → 0 ≤ n ∧ s.data.toList = Lib.decDigits n.toNat := by
        intro n hn e
        rcases itoa_cases n s e with h | ⟨h1, h2⟩
        · exact h
        · exfalso
          have h3 := at0 s 45 _ h2 hp
          rw [h3] at hneg
          exact hneg (by decide)
      by_cases h18 : 18 < s.size
      · refine (num_long s w h18 hs hneg').mono fun e w' h => fals e w' h ?_
        rintro n hn rfl
        have := itoa_len n hn.1 hn.2
        omega
      · by_cases hz : (s[0]'hp).toNat = 48 ∧ 1 < s.size
        · refine (num_nought s w hz.2 (by omega) hz.1).mono fun e w' h => fals e w' h ?_
          intro n hn e
          obtain ⟨k1, k2⟩ := key n hn e
          cases hd : Lib.decDigits n.toNat with
          | nil => exact dec_ne _ hd
          | cons b r =>
            have h3 := at0 s b r (by rw [k2, hd]) hp
            have hz1 := hz.1
            rw [h3] at hz1
            have hb : b = 48 := UInt8.toNat_inj.1 hz1
            by_cases h0n : n.toNat = 0
            · have h4 : s.data.toList.length = 1 := by rw [k2, h0n, dec_small 0 (by omega)]; rfl
              rw [Array.length_toList] at h4
              have h5 : s.size = 1 := h4
              omega
            · exact dec_head n.toNat n.toNat (Nat.le_refl _) (by omega) r (by rw [hd, hb])
        · refine (num_plain s w (by omega) (by omega) hneg' (by omega)).mono ?_
          rintro e w' ⟨⟨r, ok, rfl, hr, hm⟩, rfl⟩
          refine ⟨⟨r, ok, rfl, hr, fun n hn e => ?_⟩, rfl⟩
          obtain ⟨k1, k2⟩ := key n hn e
          obtain ⟨h1, h2⟩ := hm n.toNat k2
          exact ⟨by rw [h1]; show ((n.toNat : Nat) : Int) = n; omega, h2⟩
end Go.Proofs.YtidafleegkofkaiDoor
