/- An append to a row of one's own: its block is the old one, or a new one. -/
import Derived.Test.YtkiplmabjeadgaaGreatBaseR
import Derived.WalkKit
import Derived.ProofKit
import Derived.OpenShut
import Derived.Laws.MakeOwn
import Derived.Laws.AppendOwn
import Derived.OwnWalk
namespace Go.Proofs.YtkiplmabjeadgaaGreat
set_option maxRecDepth 100000
set_option maxHeartbeats 16000000
open Go.ChangeShapes Go.WideShapes Go.ChangeAt Go.RowKit
set_option linter.unusedVariables false
set_option linter.unusedSimpArgs false
theorem digit_any (r : Nat) (w : World) (h : r ≤ 2147483647) :
  Calls Tryz.prog 210 #[.int .i32 (r : Int)] w fun e w' => e = .returned (.bool (isDigit r)) ∧ w' = w:=by
 rcases (by omega : r < 48 ∨ (48 ≤ r ∧ r ≤ 57) ∨ (48 ≤ r ∧ 57 < r)) with h1 | ⟨h1,h2⟩ | ⟨h1,h2⟩
 ·rw [show isDigit r = false from df (by omega)]
  go_enter Tryz.func210,Tryz.ntmps210;go_wp2;go_ret;exact ⟨ret_bool (by first | rfl | (simp;omega)),rfl⟩
 ·rw [show isDigit r = true from dt (by omega)]
  go_enter Tryz.func210,Tryz.ntmps210;go_wp2;go_ret;exact ⟨ret_bool (by first | rfl | (simp;omega)),rfl⟩
 ·rw [show isDigit r = false from df (by omega)]
  go_enter Tryz.func210,Tryz.ntmps210;go_wp2;go_ret;exact ⟨ret_bool (by first | rfl | (simp;omega)),rfl⟩
theorem rune_yes (r : Nat) (h : ((97 ≤ r ∧ r ≤ 122) ∨ (65 ≤ r ∧ r ≤ 90) ∨ r = 95) ∨ ((192 ≤ r ∧ r ≤ 591 ∧ r ≠ 215 ∧ r ≠ 247) ∨ (913 ≤ r ∧ r ≤ 969) ∨ (1040 ≤ r ∧ r ≤ 1103))) : runeB r = true:=by
 rcases h with h | h
 ·simp only [runeB,show isAscii r = true from dt h,Bool.true_or]
 ·simp only [runeB,show isFar r = true from dt h,Bool.or_true]
theorem rune_no (r : Nat) (h1 : ¬ ((97 ≤ r ∧ r ≤ 122) ∨ (65 ≤ r ∧ r ≤ 90) ∨ r = 95)) (h2 : ¬ ((192 ≤ r ∧ r ≤ 591 ∧ r ≠ 215 ∧ r ≠ 247) ∨ (913 ≤ r ∧ r ≤ 969) ∨ (1040 ≤ r ∧ r ≤ 1103))) : runeB r = false:=by
 simp only [runeB,show isAscii r = false from df h1,show isFar r = false from df h2,Bool.or_self]
theorem letter_0 (r : Nat) (w : World) (h1 : 0 ≤ r) (h2 : r ≤ 64) :
  Calls Tryz.prog 209 #[.int .i32 (r : Int)] w fun e w' => e = .returned (.bool false) ∧ w' = w:=by
 go_enter Tryz.func209,Tryz.ntmps209;go_wp2;go_ret;exact ⟨ret_bool (by first | rfl | (simp;omega)),rfl⟩
theorem letter_1 (r : Nat) (w : World) (h1 : 65 ≤ r) (h2 : r ≤ 90) :
  Calls Tryz.prog 209 #[.int .i32 (r : Int)] w fun e w' => e = .returned (.bool true) ∧ w' = w:=by
 go_enter Tryz.func209,Tryz.ntmps209;go_wp2;go_ret;exact ⟨ret_bool (by first | rfl | (simp;omega)),rfl⟩
theorem letter_2 (r : Nat) (w : World) (h1 : 91 ≤ r) (h2 : r ≤ 94) :
  Calls Tryz.prog 209 #[.int .i32 (r : Int)] w fun e w' => e = .returned (.bool false) ∧ w' = w:=by
 go_enter Tryz.func209,Tryz.ntmps209;go_wp2;go_ret;exact ⟨ret_bool (by first | rfl | (simp;omega)),rfl⟩
theorem letter_3 (r : Nat) (w : World) (h1 : 95 ≤ r) (h2 : r ≤ 95) :
  Calls Tryz.prog 209 #[.int .i32 (r : Int)] w fun e w' => e = .returned (.bool true) ∧ w' = w:=by
 go_enter Tryz.func209,Tryz.ntmps209;go_wp2;go_ret;exact ⟨ret_bool (by first | rfl | (simp;omega)),rfl⟩
theorem letter_4 (r : Nat) (w : World) (h1 : 96 ≤ r) (h2 : r ≤ 96) :
  Calls Tryz.prog 209 #[.int .i32 (r : Int)] w fun e w' => e = .returned (.bool false) ∧ w' = w:=by
 go_enter Tryz.func209,Tryz.ntmps209;go_wp2;go_ret;exact ⟨ret_bool (by first | rfl | (simp;omega)),rfl⟩
theorem letter_5 (r : Nat) (w : World) (h1 : 97 ≤ r) (h2 : r ≤ 122) :
  Calls Tryz.prog 209 #[.int .i32 (r : Int)] w fun e w' => e = .returned (.bool true) ∧ w' = w:=by
 go_enter Tryz.func209,Tryz.ntmps209;go_wp2;go_ret;exact ⟨ret_bool (by first | rfl | (simp;omega)),rfl⟩
theorem letter_6 (r : Nat) (w : World) (h1 : 123 ≤ r) (h2 : r ≤ 191) :
  Calls Tryz.prog 209 #[.int .i32 (r : Int)] w fun e w' => e = .returned (.bool false) ∧ w' = w:=by
 go_enter Tryz.func209,Tryz.ntmps209;go_wp2;go_ret;exact ⟨ret_bool (by first | rfl | (simp;omega)),rfl⟩
theorem letter_7 (r : Nat) (w : World) (h1 : 192 ≤ r) (h2 : r ≤ 214) :
  Calls Tryz.prog 209 #[.int .i32 (r : Int)] w fun e w' => e = .returned (.bool true) ∧ w' = w:=by
 go_enter Tryz.func209,Tryz.ntmps209;go_wp2;go_ret;exact ⟨ret_bool (by first | rfl | (simp;omega)),rfl⟩
theorem letter_8 (r : Nat) (w : World) (h1 : 215 ≤ r) (h2 : r ≤ 215) :
  Calls Tryz.prog 209 #[.int .i32 (r : Int)] w fun e w' => e = .returned (.bool false) ∧ w' = w:=by
 go_enter Tryz.func209,Tryz.ntmps209;go_wp2;go_ret;exact ⟨ret_bool (by first | rfl | (simp;omega)),rfl⟩
theorem letter_9 (r : Nat) (w : World) (h1 : 216 ≤ r) (h2 : r ≤ 246) :
  Calls Tryz.prog 209 #[.int .i32 (r : Int)] w fun e w' => e = .returned (.bool true) ∧ w' = w:=by
 go_enter Tryz.func209,Tryz.ntmps209;go_wp2;go_ret;exact ⟨ret_bool (by first | rfl | (simp;omega)),rfl⟩
theorem letter_10 (r : Nat) (w : World) (h1 : 247 ≤ r) (h2 : r ≤ 247) :
  Calls Tryz.prog 209 #[.int .i32 (r : Int)] w fun e w' => e = .returned (.bool false) ∧ w' = w:=by
 go_enter Tryz.func209,Tryz.ntmps209;go_wp2;go_ret;exact ⟨ret_bool (by first | rfl | (simp;omega)),rfl⟩
theorem letter_11 (r : Nat) (w : World) (h1 : 248 ≤ r) (h2 : r ≤ 591) :
  Calls Tryz.prog 209 #[.int .i32 (r : Int)] w fun e w' => e = .returned (.bool true) ∧ w' = w:=by
 go_enter Tryz.func209,Tryz.ntmps209;go_wp2;go_ret;exact ⟨ret_bool (by first | rfl | (simp;omega)),rfl⟩
theorem letter_12 (r : Nat) (w : World) (h1 : 592 ≤ r) (h2 : r ≤ 912) :
  Calls Tryz.prog 209 #[.int .i32 (r : Int)] w fun e w' => e = .returned (.bool false) ∧ w' = w:=by
 go_enter Tryz.func209,Tryz.ntmps209;go_wp2;go_ret;exact ⟨ret_bool (by first | rfl | (simp;omega)),rfl⟩
theorem letter_13 (r : Nat) (w : World) (h1 : 913 ≤ r) (h2 : r ≤ 969) :
  Calls Tryz.prog 209 #[.int .i32 (r : Int)] w fun e w' => e = .returned (.bool true) ∧ w' = w:=by
 go_enter Tryz.func209,Tryz.ntmps209;go_wp2;go_ret;exact ⟨ret_bool (by first | rfl | (simp;omega)),rfl⟩
theorem letter_14 (r : Nat) (w : World) (h1 : 970 ≤ r) (h2 : r ≤ 1039) :
  Calls Tryz.prog 209 #[.int .i32 (r : Int)] w fun e w' => e = .returned (.bool false) ∧ w' = w:=by
 go_enter Tryz.func209,Tryz.ntmps209;go_wp2;go_ret;exact ⟨ret_bool (by first | rfl | (simp;omega)),rfl⟩
theorem letter_15 (r : Nat) (w : World) (h1 : 1040 ≤ r) (h2 : r ≤ 1103) :
  Calls Tryz.prog 209 #[.int .i32 (r : Int)] w fun e w' => e = .returned (.bool true) ∧ w' = w:=by
 go_enter Tryz.func209,Tryz.ntmps209;go_wp2;go_ret;exact ⟨ret_bool (by first | rfl | (simp;omega)),rfl⟩
theorem letter_16 (r : Nat) (w : World) (h1 : 1104 ≤ r) (h2 : r ≤ 2147483647) :
  Calls Tryz.prog 209 #[.int .i32 (r : Int)] w fun e w' => e = .returned (.bool false) ∧ w' = w:=by
 go_enter Tryz.func209,Tryz.ntmps209;go_wp2;go_ret;exact ⟨ret_bool (by first | rfl | (simp;omega)),rfl⟩
theorem letter_any (r : Nat) (w : World) (h : r ≤ 2147483647) :
  Calls Tryz.prog 209 #[.int .i32 (r : Int)] w fun e w' => e = .returned (.bool (runeB r)) ∧ w' = w:=by
 by_cases c0 : r ≤ 64
 ·rw [rune_no r (by omega) (by omega)]
  exact letter_0 r w (by omega) c0
 by_cases c1 : r ≤ 90
 ·rw [rune_yes r (by omega)]
  exact letter_1 r w (by omega) c1
 by_cases c2 : r ≤ 94
 ·rw [rune_no r (by omega) (by omega)]
  exact letter_2 r w (by omega) c2
 by_cases c3 : r ≤ 95
 ·rw [rune_yes r (by omega)]
  exact letter_3 r w (by omega) c3
 by_cases c4 : r ≤ 96
 ·rw [rune_no r (by omega) (by omega)]
  exact letter_4 r w (by omega) c4
 by_cases c5 : r ≤ 122
 ·rw [rune_yes r (by omega)]
  exact letter_5 r w (by omega) c5
 by_cases c6 : r ≤ 191
 ·rw [rune_no r (by omega) (by omega)]
  exact letter_6 r w (by omega) c6
 by_cases c7 : r ≤ 214
 ·rw [rune_yes r (by omega)]
  exact letter_7 r w (by omega) c7
 by_cases c8 : r ≤ 215
 ·rw [rune_no r (by omega) (by omega)]
  exact letter_8 r w (by omega) c8
 by_cases c9 : r ≤ 246
 ·rw [rune_yes r (by omega)]
  exact letter_9 r w (by omega) c9
 by_cases c10 : r ≤ 247
 ·rw [rune_no r (by omega) (by omega)]
  exact letter_10 r w (by omega) c10
 by_cases c11 : r ≤ 591
 ·rw [rune_yes r (by omega)]
  exact letter_11 r w (by omega) c11
 by_cases c12 : r ≤ 912
 ·rw [rune_no r (by omega) (by omega)]
  exact letter_12 r w (by omega) c12
 by_cases c13 : r ≤ 969
 ·rw [rune_yes r (by omega)]
  exact letter_13 r w (by omega) c13
 by_cases c14 : r ≤ 1039
 ·rw [rune_no r (by omega) (by omega)]
  exact letter_14 r w (by omega) c14
 by_cases c15 : r ≤ 1103
 ·rw [rune_yes r (by omega)]
  exact letter_15 r w (by omega) c15
 rw [rune_no r (by omega) (by omega)];exact letter_16 r w (by omega) h
inductive Rch (t : Nat → Nat → Bool) (n : Nat) (i : Nat) : Nat → Prop
 | refl : Rch t n i i
 | step {j k : Nat} : Rch t n i j → k < n → t j k = true → Rch t n i k
theorem Rch.trans {t : Nat → Nat → Bool} {n i j k : Nat} (h : Rch t n i j) (g : Rch t n j k) : Rch t n i k:=by
 induction g with
 | refl => exact h
 | step _ h2 h3 ih => exact .step ih h2 h3
theorem Rch.lt {t : Nat → Nat → Bool} {n i j : Nat} (h : Rch t n i j) (hi : i < n) : j < n:=by
 cases h with
 | refl => exact hi
 | step _ h2 _ => exact h2
def Sn (t : Nat → Nat → Bool) (n K k : Nat) : Prop:=∃ j,j < K ∧ Rch t n j k
noncomputable def pcs (t : Nat → Nat → Bool) (n : Nat) : Nat → Nat
 | 0 => 0
 | K + 1 => pcs t n K + (if (Classical.propDecidable (Sn t n K K)).decide then 0 else 1)
theorem pcs_seen {t : Nat → Nat → Bool} {n K : Nat} (h : Sn t n K K) : pcs t n (K + 1) = pcs t n K:=by
 unfold pcs;rw [if_pos (by simpa using h)]
 cases K <;> rfl
theorem pcs_new {t : Nat → Nat → Bool} {n K : Nat} (h : ¬ Sn t n K K) : pcs t n (K + 1) = pcs t n K + 1:=by
 show pcs t n K + _ = _
 rw [if_neg (by simpa using h)]
theorem pcs_le (t : Nat → Nat → Bool) (n : Nat) : ∀ K,pcs t n K ≤ K
 | 0 => Nat.le_refl _
 | K + 1 => by
  have:=pcs_le t n K
  by_cases h : Sn t n K K
  ·rw [pcs_seen h];omega
  ·rw [pcs_new h];omega
theorem Sn.succ {t : Nat → Nat → Bool} {n K k : Nat} : Sn t n (K + 1) k ↔ Sn t n K k ∨ Rch t n K k:=by
 constructor
 ·rintro ⟨j,hj,h⟩
  by_cases e : j = K
  ·subst e;exact .inr h
  ·exact .inl ⟨j,by omega,h⟩
 ·rintro (⟨j,hj,h⟩ | h)
  ·exact ⟨j,by omega,h⟩
  ·exact ⟨K,by omega,h⟩
theorem Sn.seen {t : Nat → Nat → Bool} {n K k : Nat} (h : Sn t n K K) : Sn t n (K + 1) k ↔ Sn t n K k:=by
 rw [Sn.succ];constructor
 ·rintro (h1 | h1)
  ·exact h1
  ·obtain ⟨j,hj,h2⟩:=h
   exact ⟨j,hj,h2.trans h1⟩
 ·exact .inl
theorem Sn.closed {t : Nat → Nat → Bool} {n K a k : Nat} (h : Sn t n K a) (hk : k < n) (ht : t a k = true) : Sn t n K k:=by
 obtain ⟨j,hj,h2⟩:=h;exact ⟨j,hj,.step h2 hk ht⟩
theorem Rch.congr {t t' : Nat → Nat → Bool} {n i k : Nat} (hi : i < n) (h : ∀ a b,a < n → b < n → t a b = t' a b) (g : Rch t n i k) : Rch t' n i k:=by
 induction g with
 | refl => exact .refl
 | step h1 h2 h3 ih => exact .step ih h2 (by rw [← h _ _ (h1.lt hi) h2];exact h3)
theorem pcs_congr {t t' : Nat → Nat → Bool} {n : Nat} (h : ∀ a b,a < n → b < n → t a b = t' a b) : ∀ K,K ≤ n → pcs t n K = pcs t' n K
 | 0,_ => rfl
 | K + 1,hK => by
  have ih:=pcs_congr h K (by omega)
  by_cases hs : Sn t n K K
  ·have hs' : Sn t' n K K:=by obtain ⟨j,hj,g⟩:=hs;exact ⟨j,hj,g.congr (by omega) h⟩
   rw [pcs_seen hs,pcs_seen hs',ih]
  ·have hs' : ¬ Sn t' n K K:=by
    rintro ⟨j,hj,g⟩;exact hs ⟨j,hj,g.congr (by omega) (fun a b ha hb => (h a b ha hb).symm)⟩
   rw [pcs_new hs,pcs_new hs',ih]
structure Walk (t : Nat → Nat → Bool) (n i : Nat) (S : Nat → Bool) (st : List Nat) : Prop where
 old : ∀ k,Sn t n i k → k < n → S k = true
 just : ∀ k,k < n → S k = true → Sn t n i k ∨ Rch t n i k
 first : S i = true
 stack : ∀ k ∈ st,k < n ∧ S k = true ∧ Rch t n i k
 next : ∀ a,a < n → S a = true → a ∉ st → ∀ k,k < n → t a k = true → S k = true
theorem Walk.start {t : Nat → Nat → Bool} {n i : Nat} {S : Nat → Bool} (hi : i < n) (hS : ∀ k,k < n → (S k = true ↔ Sn t n i k)) : Walk t n i (fun k => if k = i then true else S k) [i]:=by
 refine ⟨fun k h hk => ?_,fun k hk h => ?_,by simp,fun k hk => ?_,fun a ha h hn k hk ht => ?_⟩
 ·split
  ·rfl
  ·exact (hS k hk).2 h
 ·split at h
  ·rename_i e;subst e;exact .inr .refl
  ·exact .inl ((hS k hk).1 h)
 ·simp only [List.mem_singleton] at hk;subst hk
  exact ⟨hi,by simp,.refl⟩
 ·have hne : a ≠ i:=by simpa using hn
  rw [if_neg hne] at h
  split
  ·rfl
  ·exact (hS k hk).2 (((hS a ha).1 h).closed hk ht)
theorem Walk.done {t : Nat → Nat → Bool} {n i : Nat} {S : Nat → Bool} (h : Walk t n i S []) (hi : i < n) : ∀ k,k < n → (S k = true ↔ Sn t n (i + 1) k):=by
 intro k hk;rw [Sn.succ];refine ⟨h.just k hk,?_⟩;rintro (h1 | h1)
 ·exact h.old k h1 hk
 ·have : ∀ k,Rch t n i k → S k = true:=by
   intro k g
   induction g with
   | refl => exact h.first
   | step h1 h2 h3 ih => exact h.next _ (h1.lt hi) ih (by simp) _ h2 h3
  exact this k h1
structure Look (t : Nat → Nat → Bool) (n i a K : Nat) (S : Nat → Bool) (st : List Nat) : Prop where
 old : ∀ k,Sn t n i k → k < n → S k = true
 just : ∀ k,k < n → S k = true → Sn t n i k ∨ Rch t n i k
 first : S i = true
 stack : ∀ k ∈ st,k < n ∧ S k = true ∧ Rch t n i k
 next : ∀ b,b < n → S b = true → b ∉ st → b ≠ a → ∀ k,k < n → t b k = true → S k = true
 mine : ∀ k,k < K → k < n → t a k = true → S k = true
 at_ : a < n ∧ S a = true ∧ Rch t n i a
theorem Walk.look {t : Nat → Nat → Bool} {n i a : Nat} {S : Nat → Bool} {st : List Nat} (h : Walk t n i S (st ++ [a])) : Look t n i a 0 S st :=
  ⟨h.old,h.just,h.first,fun k hk => h.stack k (by simp [hk]),fun b hb hs hn hne k hk ht => h.next b hb hs (by simp [hn,hne]) k hk ht,fun k hk => by omega,h.stack a (by simp)⟩
theorem Look.skip {t : Nat → Nat → Bool} {n i a K : Nat} {S : Nat → Bool} {st : List Nat} (h : Look t n i a K S st) (hs : t a K = true → S K = true) : Look t n i a (K + 1) S st :=
  ⟨h.old,h.just,h.first,h.stack,h.next,fun k hk hn ht => by
   by_cases e : k = K
   ·subst e;exact hs ht
   ·exact h.mine k (by omega) hn ht,h.at_⟩
theorem Look.push {t : Nat → Nat → Bool} {n i a K : Nat} {S : Nat → Bool} {st : List Nat} (h : Look t n i a K S st) (hK : K < n) (ht : t a K = true) : Look t n i a (K + 1) (fun k => if k = K then true else S k) (st ++ [K]):=by
 have hr : Rch t n i K:=.step h.at_.2.2 hK ht;refine ⟨fun k hk hn => ?_,fun k hk hs => ?_,?_,fun k hk => ?_,fun b hb hs hn hne k hk hbk => ?_,fun k hk hn hak => ?_,?_⟩
 ·split
  ·rfl
  ·exact h.old k hk hn
 ·split at hs
  ·rename_i e;subst e;exact .inr hr
  ·exact h.just k hk hs
 ·split
  ·rfl
  ·exact h.first
 ·rcases List.mem_append.1 hk with hk | hk
  ·obtain ⟨h1,h2,h3⟩:=h.stack k hk
   exact ⟨h1,by split <;> first | rfl | exact h2,h3⟩
  ·simp only [List.mem_singleton] at hk;subst hk
   exact ⟨hK,by simp,hr⟩
 ·have hbK : b ≠ K:=fun e => hn (by simp [e])
  rw [if_neg hbK] at hs
  split
  ·rfl
  ·exact h.next b hb hs (fun e => hn (by simp [e])) hne k hk hbk
 ·split
  ·rfl
  ·rename_i e;exact h.mine k (by omega) hn hak
 ·exact ⟨h.at_.1,by split <;> first | rfl | exact h.at_.2.1,h.at_.2.2⟩
theorem Look.end_ {t : Nat → Nat → Bool} {n i a : Nat} {S : Nat → Bool} {st : List Nat} (h : Look t n i a n S st) : Walk t n i S st :=
  ⟨h.old,h.just,h.first,h.stack,fun b hb hs hn k hk ht => by
   by_cases e : b = a
   ·subst e;exact h.mine k hk hk ht
   ·exact h.next b hb hs hn e k hk ht⟩
def uns (n : Nat) (S : Nat → Bool) : Nat:=(List.range n).countP fun k => !S k
theorem uns_le (n : Nat) (S : Nat → Bool) : uns n S ≤ n:=by
 have:=List.countP_le_length (p:=fun k => !S k) (l:=List.range n);rw [List.length_range] at this;exact this
theorem uns_push {S : Nat → Bool} {K : Nat} (hs : S K = false) : ∀ {n : Nat},K < n → uns n (fun k => if k = K then true else S k) + 1 = uns n S
 | 0,h => by omega
 | n + 1,h => by
  unfold uns at *;rw [List.range_succ,List.countP_append,List.countP_append]
  by_cases e : K = n
  ·subst e
   have : (List.range K).countP (fun k => !(if k = K then true else S k)) = (List.range K).countP fun k => !S k:=by
    refine List.countP_congr fun k hk => ?_
    rw [if_neg (by have:=List.mem_range.1 hk;omega)]
   rw [this];simp [hs]
  ·have ih:=uns_push (n:=n) hs (by omega)
   unfold uns at ih
   have e2 : ([n] : List Nat).countP (fun k => !(if k = K then true else S k)) = ([n] : List Nat).countP fun k => !S k:=by
    refine List.countP_congr fun k hk => ?_
    simp only [List.mem_singleton] at hk;rw [if_neg (by omega)]
   rw [e2];omega
def forward2 (ops : Array Oper) : Bool:=(List.range ops.size).all fun i => ((ops[i]?).map (·.after.all fun e => !Region.binds .any e || decide (e.on < i))).getD true
section
variable {P : Program} {ops : Array Oper} {Q : Exit → Act → World → Prop} {I : Array Bool → Act → World → Prop}
theorem wpAny_inv2 (hfw : forward2 ops = true)
  (hstep : ∀ listed a w,I listed a w → RSteps P ops Q I listed a w 0 ops.toList)
  (hend : ∀ listed a w,I listed a w → listed = Array.replicate ops.size true → Q .normal a w) :
  ∀ (n : Nat) (listed : Array Bool) (a : Act) (w : World),listed.size = ops.size → listed.toList.count false ≤ n → I listed a w → wpAny P .any ops Q n listed a w:=by
 have alltrue : ∀ listed : Array Bool,listed.size = ops.size → (∀ i,i < ops.size → listed.getD i true = true) → listed = Array.replicate ops.size true:=by
  intro listed hs h;apply Array.ext
  ·simp [hs]
  ·intro i h1 h2
   have:=h i (by omega);simp [h1] at this;simp [this]
 have fin : ∀ listed : Array Bool,listed.size = ops.size → Region.ready .any ops listed = [] → listed = Array.replicate ops.size true:=by
  intro listed hs hr;refine alltrue listed hs ?_;intro i
  induction i using Nat.strongRecOn with
  | _ i ih =>
   intro hi
   cases hl : listed.getD i true with
   | true => rfl
   | false =>
    have : i ∈ Region.ready .any ops listed:=by
     rw [mem_ready];refine ⟨hl,ops[i],Array.getElem?_eq_getElem hi,fun e he hb => ?_⟩
     have hlt : e.on < i:=by
      have h1:=hfw;unfold forward2 at h1;rw [List.all_eq_true] at h1;have h2:=h1 i (by simpa using hi);rw [Array.getElem?_eq_getElem hi] at h2;simp only [Option.map_some,Option.getD_some,Array.all_eq_true_iff_forall_mem] at h2;have h3:=h2 e he;rw [hb] at h3
      simpa using h3
     have h3:=ih e.on hlt (by omega);have : e.on < listed.size:=by omega
     simp [this] at h3 ⊢;exact h3
    rw [hr] at this
    cases this
 intro n
 induction n with
 | zero =>
  intro listed a w hs hc hI
  have e : listed = Array.replicate ops.size true:=by
   refine alltrue listed hs fun i hi => ?_
   have:=count_none (l:=listed.toList) (by omega) (i:=i) (by simp;omega);rw [Array.getElem?_toList] at this;simp [this]
  refine ⟨?_,hend _ _ _ hI e⟩;rw [e];apply List.eq_nil_iff_forall_not_mem.2;intro i hi;rw [mem_ready] at hi;obtain ⟨h0,o,ho,_⟩:=hi;have : i < ops.size:=(Array.getElem?_eq_some_iff.1 ho).1;simp [this] at h0
 | succ n ih =>
  intro listed a w hs hc hI;refine ⟨fun hr => hend _ _ _ hI (fin listed hs hr),fun i hi => ?_⟩;obtain ⟨h0,o,ho,hall⟩:=mem_ready.1 hi
  have hlt : i < listed.size:=by
   have:=(Array.getElem?_eq_some_iff.1 ho).1;omega
  have hst:=RSteps.at ops.toList 0 i o (hstep _ _ _ hI) (by rw [Array.getElem?_toList];exact ho) (by rw [Nat.zero_add];exact h0) (by
   rw [Array.all_eq_true_iff_forall_mem];intro e he
   cases hb : Region.binds .any e
   ·rfl
   ·rw [hall e he hb];rfl)
  rw [Nat.zero_add] at hst;refine wpOp_step ho (fun K' hK => hst K' (fun a' w' h => hK a' w' (ih _ a' w' (by simpa using hs) ?_ h)));rw [Array.toList_setIfInBounds]
  have:=count_set listed.toList i (by
   rw [Array.getElem?_toList];simp [hlt] at h0 ⊢
   exact h0)
  omega
theorem wp_region_inv2 {id : Nat} {a : Act} {w : World} (I : Array Bool → Act → World → Prop) (hm : P.follows .mixedOrders = true) (hfw : forward2 ops = true)
  (h0 : I (Array.replicate ops.size false) a w.drew)
  (hstep : ∀ listed a w,I listed a w → RSteps P ops Q I listed a w 0 ops.toList)
  (hend : ∀ listed a w,I listed a w → listed = Array.replicate ops.size true → Q .normal a w) : (Code.region id ops true).wp P Q a w:=by
 refine wp_region_any hm (wpAny_inv2 hfw hstep hend _ _ _ _ (by simp) ?_ h0);simp
end
theorem zf {p : Prop} (h : false = true) : p:=nomatch h
theorem zt {p : Prop} (h : true = false) : p:=nomatch h
theorem znb {b : Bool} (h : b = true → false = true) : b = false:=by
 cases b with
 | false => rfl
 | true => exact nomatch h rfl
noncomputable def regOfZ (id : Nat) : Go.Code → Option Go.Code
 | .region i ops b => if i = id then some (.region i ops b) else none
 | .seq a b => match regOfZ id a with | some c => some c | none => regOfZ id b
 | .cond _ a b => match regOfZ id a with | some c => some c | none => regOfZ id b
 | .block _ c => regOfZ id c
 | .loop c => regOfZ id c
 | .scope c => regOfZ id c
 | _ => none
theorem add_none (p po j : Nat) : (⟨p,po,none⟩ : Addr).add j = ⟨p,po + j,none⟩:=by
 unfold Addr.add
 split <;> simp_all
def Row (w : World) (B t k : Nat) (v : Value) (n : Nat) (L : List Int) : Prop:=w.ownsRow B t k v n (L.map (Value.int .i64))
theorem Row.len {w : World} {B t k : Nat} {v : Value} {n : Nat} {L : List Int} (h : Row w B t k v n L) : L.length = n * k:=by have:=h.1;simpa using this
theorem Row.form {w : World} {B t k : Nat} {v : Value} {n : Nat} {L : List Int} (h : Row w B t k v n L) :
  ∃ (u : Option Addr) (cap : Nat),v = .slice u n cap ∧ (n ≠ 0 → ∃ g,u = some ⟨g,0,none⟩ ∧ B ≤ g ∧ g < w.heap.size ∧ IntsAt w g 0 L):=by
 rcases h.2 with ⟨rfl,rfl⟩ | ⟨g,cap,cur,rfl,hb,hh,hn,hm,hs,ht⟩
 ·exact ⟨none,0,rfl,fun h => absurd rfl h⟩
 ·refine ⟨_,cap,rfl,fun _ => ⟨g,rfl,hb,(Array.getElem?_eq_some_iff.1 hh).1,?_⟩⟩
  intro j x hj;have h1 : (cur.toList.take (n * k))[j]? = some (Value.int .i64 x):=by rw [ht,List.getElem?_map,hj];rfl
  simp only [World.cell?];rw [hh];rw [List.getElem?_take] at h1
  split at h1
  ·rw [Nat.zero_add];simpa using h1
  ·cases h1
theorem Row.below {w w' : World} {B t k : Nat} {v : Value} {n : Nat} {L : List Int} (h : Row w B t k v n L) (hb : Below w.heap.size w w') : Row w' B t k v n L:=by
 refine ⟨h.1,?_⟩
 rcases h.2 with h1 | ⟨g,cap,cur,hv,hB,hh,r⟩
 ·exact .inl h1
 ·exact .inr ⟨g,cap,cur,hv,hB,(hb.block g (Array.getElem?_eq_some_iff.1 hh).1).trans hh,r⟩
theorem Row.mono {w : World} {B B' t k : Nat} {v : Value} {n : Nat} {L : List Int} (h : Row w B t k v n L) (hb : B' ≤ B) : Row w B' t k v n L:=by
 refine ⟨h.1,?_⟩
 rcases h.2 with h1 | ⟨g,cap,cur,hv,hB,r⟩
 ·exact .inl h1
 ·exact .inr ⟨g,cap,cur,hv,Nat.le_trans hb hB,r⟩
theorem row_made (w : World) (t B k : Nat) (hb : B ≤ w.heap.size) (g : Nat) (hg : g = w.heap.size) : Row (w.alloc (.cells #[] t)) B t k (.slice (some ⟨g,0,none⟩) 0 0) 0 []:=by
 subst hg;exact World.ownsRow_made w #[] 0 hb (by decide) (by simp)
theorem own_more {B t k n m : Nat} {wr W2 w1 : World} {v v' : Value} {L news : List Int} (hbel : Below B wr W2) (hB : B ≤ W2.heap.size) (hown : Row wr B t k v n L)
  (hown' : w1.ownsRow B t k v' (n + m) (L.map (Value.int .i64) ++ news.map (Value.int .i64))) (hgrow : W2.grownBy w1 v.ownBlock) :
  Row w1 B t k v' (n + m) (L ++ news) ∧ Below B wr w1 :=
  ⟨by unfold Row;rw [List.map_append];exact hown',hbel.grown hgrow hB (fun j hj => (hown.lt j hj).1)⟩
theorem news_cells {W : World} {e : TypeId} (news : List Value) (g : Nat) (hg : g = W.heap.size) : ∀ (j : Nat) (u : Value),news[j]? = some u → (W.alloc (.cells news.toArray e)).cell? ((⟨g,0,none⟩ : Addr).add j) = some u:=by
 subst hg;intro j u hj;rw [add_none,Nat.zero_add];simp only [World.cell?];rw [heap_alloc_new];simp [hj]
theorem news_drew {W : World} {e : TypeId} (news : List Value) (g : Nat) (hg : g = W.heap.size) : ∀ (j : Nat) (u : Value),news[j]? = some u → (W.alloc (.cells news.toArray e)).drew.cell? ((⟨g,0,none⟩ : Addr).add j) = some u:=news_cells news g hg
theorem ints_one {L : List Int} : ∀ u ∈ L.map (Value.int .i64),u.oneCell' = true:=by
 intro u hu;obtain ⟨x,_,rfl⟩:=List.mem_map.1 hu;rfl
theorem Row.full {w : World} {B t k : Nat} {v : Value} {n : Nat} {L : List Int} (h : Row w B t k v n L) (hn : n ≠ 0) :
  ∃ g cap,v = .slice (some ⟨g,0,none⟩) n cap ∧ B ≤ g ∧ g < w.heap.size ∧ IntsAt w g 0 L ∧ n ≤ cap ∧ cap ≤ 9223372036854775807:=by
 obtain ⟨u,cap,hv,hf⟩:=h.form;obtain ⟨g,rfl,h1,h2,h3⟩:=hf hn;refine ⟨g,cap,hv,h1,h2,h3,?_⟩
 rcases h.2 with ⟨h4,h5⟩ | ⟨g',cap',cur,h4,_,_,h7,h8,_⟩
 ·exact absurd h5 hn
 ·rw [h4] at hv
  cases hv
  exact ⟨h7,by unfold maxLen at h8;omega⟩
theorem Row.kept' {w w' : World} {B t k n : Nat} {v : Value} {L : List Int} (h : Row w B t k v n L) (hb : ∀ g,v.ownBlock = some g → w'.heap[g]? = w.heap[g]?) : Row w' B t k v n L:=by
 refine ⟨h.1,?_⟩
 rcases h.2 with h1 | ⟨g,cap,cur,hv,hB,hh,r⟩
 ·exact .inl h1
 ·exact .inr ⟨g,cap,cur,hv,hB,(hb g (by rw [hv];rfl)).trans hh,r⟩
theorem wrap_i {x : Int} (h1 : -9223372036854775808 ≤ x) (h2 : x ≤ 9223372036854775807) : IntKind.i64.wrap x = x:=by
 simp only [IntKind.wrap,IntKind.bits,IntKind.signed];simp;omega
def Only (K : Act → World → Prop) : Exit → Act → World → Prop:=fun e a w => match e with | .normal => K a w | _ => False
theorem Only.to {K : Act → World → Prop} {Q : Exit → Act → World → Prop} (h : ∀ a w,K a w → Q .normal a w) : ∀ e a w,Only K e a w → Q e a w:=by
 intro e a w hq
 cases e <;> first | exact h _ _ hq | exact hq.elim
theorem get_some {α : Type} {ls : List α} {i n : Nat} (hl : ls.length = n) (h : i < n) : ∃ l,ls[i]? = some l:=⟨ls[i]'(by omega),List.getElem?_eq_getElem _⟩
def Its (w : World) (u : Option Addr) (p po : Nat) (L : List Int) : Prop:=L ≠ [] → u = some ⟨p,po,none⟩ ∧ p < w.heap.size ∧ IntsAt w p po L
theorem Its.bel {w w' : World} {u : Option Addr} {p po : Nat} {L : List Int} (h : Its w u p po L) (hb : Below w.heap.size w w') : Its w' u p po L :=
  fun h0 => ⟨(h h0).1,Nat.lt_of_lt_of_le (h h0).2.1 hb.size,(h h0).2.2.below hb (h h0).2.1⟩
theorem Its.at {w : World} {u : Option Addr} {p po : Nat} {L : List Int} (h : Its w u p po L) {i : Nat} {x : Int} (hx : L[i]? = some x) : u = some ⟨p,po,none⟩ ∧ p < w.heap.size ∧ w.cell? ⟨p,po + i,none⟩ = some (.int .i64 x):=by
 obtain ⟨h1,h2,h3⟩:=h (by intro e;subst e;cases hx);exact ⟨h1,h2,h3 i x hx⟩
theorem step_own {P : Program} {w : World} {ops : Array Oper} {o : Oper} {a : Act} {K : Act → World → Prop} {Q : Exit → Act → World → Prop} {E : Prop} (hgd : o.guard = none) (s x : Operand) (t : TypeId)
  (ho : o.op = .call { callee:=.builtin .append,args:=#[s,x],argTypes:=#[t,t] })
  (base : Nat) (e : TypeId) (i : TypeInfo) (z : Value) (size bytes : Nat) (ht : P.underlying t = .some (.slice e)) (hi : P.info? e = .some i) (hz : i.zero = .some z)
  (hsize : i.size = size) (hby : i.bytes = bytes) (hzs : z.cells.size = size) (hsz : 0 < size)
  (v : Value) (n : Nat) (xs : List Value) (hs : a.eval s = v) (hown : w.ownsRow base e size v n xs)
  (ad : Addr) (m c : Nat) (news : List Value) (hx : a.eval x = .slice (.some ad) m c) (hl : news.length = m * size) (hnews : ∀ j u,news[j]? = .some u → w.cell? (ad.add j) = .some u) (h1 : ∀ u ∈ news,u.oneCell' = true)
  (h63 : n + m ≤ maxLen) (hbytes : (n + m) * bytes ≤ 140737488355328) (hbase : base ≤ w.heap.size)
  (h : ∀ v' w',w'.ownsRow base e size v' (n + m) (xs ++ news) → w.grownBy w' v.ownBlock → (v' = .slice none 0 0 ↔ v = .slice none 0 0 ∧ m = 0) → K (a.put o.dst v') w') :
  if Region.wanted o (yielded ops a.tmps) = true then Oper.wp P o a w K Q else E:=by
 rw [if_pos (by unfold Region.wanted;rw [hgd])];exact wp_append_own w s x t ho base e i z size bytes ht hi hz hsize hby hzs hsz v n xs hs hown ad m c news hx hl hnews h1 h63 hbytes hbase h
theorem IntsAt.blk {w w' : World} {b : Nat} {L : List Int} (h : IntsAt w b 0 L) (e : w'.heap[b]? = w.heap[b]?) : IntsAt w' b 0 L:=fun j x hj => (World.cell?_of_block (w:=w) (a:=⟨b,0 + j,none⟩) e).trans (h j x hj)
theorem Row.set {w : World} {B t k g n cap : Nat} {L : List Int} (h : Row w B t k (.slice (some ⟨g,0,none⟩) n cap) n L) (j : Nat) (hj : j < n * k) (x : Int) :
  Row (w.setCell ⟨g,j,none⟩ (.int .i64 x)) B t k (.slice (some ⟨g,0,none⟩) n cap) n (L.set j x):=by
 refine ⟨by have:=h.1;simpa using this,?_⟩
 rcases h.2 with ⟨h1,h2⟩ | ⟨g',cap',cur,hv,hB,hh,hn,hm,hs,ht⟩
 ·cases h1
 ·cases hv
  refine .inr ⟨g,cap,cur.setIfInBounds j (.int .i64 x),rfl,hB,?_,hn,hm,by simp [hs],?_⟩
  ·show (w.heap.modify g _)[g]? = _
   rw [Array.getElem?_modify,if_pos rfl,hh];simp
  ·rw [Array.toList_setIfInBounds,List.take_set,ht,List.map_set]
theorem Row.ge {w : World} {B t k g n cap : Nat} {L : List Int} (h : Row w B t k (.slice (some ⟨g,0,none⟩) n cap) n L) : B ≤ g:=by
 rcases h.2 with ⟨h1,h2⟩ | ⟨g',cap',cur,hv,hB,r⟩
 ·cases h1
 ·cases hv;exact hB
theorem info_parts {P : Program} {t : Nat} {z : Value} {k b : Nat} (h : (P.info? t).map (fun i => (i.zero,i.size,i.bytes)) = some (some z,k,b)) : ∃ i,P.info? t = some i ∧ i.zero = some z ∧ i.size = k ∧ i.bytes = b:=by
 cases hx : P.info? t with
 | none => rw [hx] at h;simp at h
 | some i =>
  rw [hx] at h;simp only [Option.map_some,Option.some.injEq,Prod.mk.injEq] at h;exact ⟨i,rfl,h.1,h.2.1,h.2.2⟩
def vb (w : World) (g t : Nat) (vs : List Value) : Prop:=w.heap[g]? = some (.cells vs.toArray t (0,0))
theorem vb.cell {w : World} {g t : Nat} {vs : List Value} (h : vb w g t vs) {m : Nat} {x : Value} (hx : vs[m]? = some x) : w.cell? ⟨g,m,none⟩ = some x:=by
 simp only [World.cell?];rw [h];simp [hx]
theorem vb.lt {w : World} {g t : Nat} {vs : List Value} (h : vb w g t vs) : g < w.heap.size:=(Array.getElem?_eq_some_iff.1 h).1
theorem vb.frozen {w : World} {g t : Nat} {vs : List Value} (h : vb w g t vs) (o : Nat) : w.frozen? ⟨g,o,none⟩ = false:=by
 simp only [World.frozen?];rw [h];simp
theorem vb.below {B : Nat} {w w' : World} {g t : Nat} {vs : List Value} (h : vb w g t vs) (hb : Below B w w') (hg : g < B) : vb w' g t vs:=(hb.block g hg).trans h
theorem vb.bel {w w' : World} {g t : Nat} {vs : List Value} (h : vb w g t vs) (hb : Below w.heap.size w w') : vb w' g t vs:=h.below hb h.lt
theorem vb.set {w : World} {g t : Nat} {vs : List Value} (h : vb w g t vs) (m : Nat) (x : Value) : vb (w.setCell ⟨g,m,none⟩ x) g t (vs.set m x):=by
 show (w.heap.modify g _)[g]? = _
 rw [Array.getElem?_modify,if_pos rfl,h];simp
theorem vb.ne {w : World} {g g' o t : Nat} {vs : List Value} {x : Value} (h : vb w g t vs) (hg : g ≠ g') : vb (w.setCell ⟨g',o,none⟩ x) g t vs:=(Below.heap_setCell _ _ _ _ hg).trans h
theorem vb_new (W : World) (t : Nat) (vs : List Value) (g : Nat) (hg : g = W.heap.size) : vb (W.alloc (.cells vs.toArray t)) g t vs:=by
 subst hg
 show (W.heap.push _)[W.heap.size]? = _
 rw [Array.getElem?_push_size]
theorem iblk.ne {w : World} {g g' o t : Nat} {L : List Int} {x : Value} (h : iblk w g t L) (hg : g ≠ g') : iblk (w.setCell ⟨g',o,none⟩ x) g t L:=(Below.heap_setCell _ _ _ _ hg).trans h
theorem vb_new1 (W : World) (t : Nat) (vs : List Value) (o : Obj) : vb ((W.alloc (.cells vs.toArray t)).alloc o) W.heap.size t vs:=(vb_new W t vs _ rfl).bel (ba (bfl _ _) _)
theorem vb_new2 (W : World) (t : Nat) (vs : List Value) (o : Obj) : vb ((W.alloc o).alloc (.cells vs.toArray t)) (W.heap.size + 1) t vs:=vb_new _ t vs _ (by simp)
def NewBlk (w : World) (v v' : Value) : Prop:=∀ g,v'.ownBlock = some g → v.ownBlock = some g ∨ w.heap.size ≤ g
theorem append_new {P : Program} (w : World) (base : Nat) (t ty e : TypeId) (i : TypeInfo) (z : Value) (size bytes : Nat) (ht : P.underlying t = some (.slice e)) (hi : P.info? e = some i) (hz : i.zero = some z)
  (hsize : i.size = size) (hby : i.bytes = bytes) (hzs : z.cells.size = size) (hsz : 0 < size)
  (v : Value) (n : Nat) (xs : List Value) (hown : w.ownsRow base e size v n xs)
  (a : Addr) (m c : Nat) (news : List Value) (hl : news.length = m * size) (hnews : ∀ j u,news[j]? = some u → w.cell? (a.add j) = some u) (h1 : ∀ u ∈ news,u.oneCell' = true)
  (h63 : n + m ≤ maxLen) (hbytes : (n + m) * bytes ≤ 140737488355328) (v' : Value) (w' : World)
  (hr : (Builtin.append_ #[t,t] ty #[v,.slice (some a) m c]).run P w = .ok v' w') : NewBlk w v v':=by
 have hsmall : n + m ≤ 9223372036854775807:=by simp only [maxLen] at h63;omega
 subst hsize
 subst hby
 intro g' hg'
 rcases hown.2 with ⟨rfl,rfl⟩ | ⟨g,cap,cur,rfl,hbg,hg,hnc,hcm,hcs,htake⟩
 ·have hx : xs = []:=List.eq_nil_of_length_eq_zero (by simpa using hown.1)
  subst hx
  by_cases hm : m = 0
  ·subst hm
   have hn : news = []:=List.eq_nil_of_length_eq_zero (by simpa using hl);subst hn
   have hr2 : (Builtin.append_ #[t,t] ty #[.slice none 0 0,.slice (some a) 0 c]).run P w = .ok (.slice none 0 0) w:=by
    simp [Builtin.append_,run_underlying ht,sizeOf,typeInfo,hi,Builtin.lenOf,Builtin.firstCells,loadCells,loadCellsFrom]
   rw [hr2] at hr
   cases hr
   cases hg'
  ·have hr2:=run_append_nil (P:=P) w t ty e i z ht hi hz a m c news hl hnews (by omega) (by omega) (by have hb:=hbytes;simp only [Nat.zero_add] at hb;omega)
   rw [hr2] at hr
   cases hr
   right
   simp only [Value.ownBlock,Option.some.injEq] at hg';omega
 ·by_cases hroom : n + m ≤ cap
  ·have hfit : n * i.size + news.length ≤ cur.size:=by rw [hl,hcs,← Nat.add_mul];exact Nat.mul_le_mul_right _ hroom
   have hr2:=run_append_room (P:=P) w t ty e i ht hi g n cap cur hg a m c news hl hnews h1 hroom hfit;rw [hr2] at hr
   cases hr
   exact .inl hg'
  ·have holds : ∀ j u,xs[j]? = some u → w.cell? ((⟨g,0,none⟩ : Addr).add j) = some u:=hown.cells (g:=g) rfl
   have hr2:=run_append_grow (P:=P) w t ty e i z ht hi hz ⟨g,0,none⟩ n cap xs hown.1 holds a m c news hl hnews (by omega) (by omega) (growslice_fits (by omega) hbytes);rw [hr2] at hr
   cases hr
   right
   simp only [Value.ownBlock,Option.some.injEq] at hg';omega
theorem wpList_append_new {P : Program} (w : World) {ops : Array Oper} {rest : List Oper} {o : Oper} {a : Act} {Q : Exit → Act → World → Prop} (hgd : o.guard = none) (s x : Operand) (t : TypeId)
  (ho : o.op = .call { callee:=.builtin .append,args:=#[s,x],argTypes:=#[t,t] })
  (base : Nat) (e : TypeId) (i : TypeInfo) (z : Value) (size bytes : Nat) (ht : P.underlying t = some (.slice e)) (hi : P.info? e = some i) (hz : i.zero = some z)
  (hsize : i.size = size) (hby : i.bytes = bytes) (hzs : z.cells.size = size) (hsz : 0 < size)
  (v : Value) (n : Nat) (xs : List Value) (hs : a.eval s = v) (hown : w.ownsRow base e size v n xs)
  (ad : Addr) (m c : Nat) (news : List Value) (hx : a.eval x = .slice (some ad) m c) (hl : news.length = m * size) (hnews : ∀ j u,news[j]? = some u → w.cell? (ad.add j) = some u) (h1 : ∀ u ∈ news,u.oneCell' = true)
  (h63 : n + m ≤ maxLen) (hbytes : (n + m) * bytes ≤ 140737488355328) (hbase : base ≤ w.heap.size)
  (h : ∀ v' w',w'.ownsRow base e size v' (n + m) (xs ++ news) → w.grownBy w' v.ownBlock → (v' = .slice none 0 0 ↔ v = .slice none 0 0 ∧ m = 0) → NewBlk w v v' → wpList P ops Q rest (a.put o.dst v') w') : wpList P ops Q (o :: rest) a w:=by
 refine wpList_plain hgd fun K hK => ?_
 obtain ⟨v',w',hr,h2,h3,h4⟩:=run_append_own (P:=P) w base t o.type e i z size bytes ht hi hz hsize hby hzs hsz v n xs hown ad m c news hl hnews h1 h63 hbytes hbase;have h5:=append_new (P:=P) w base t o.type e i z size bytes ht hi hz hsize hby hzs hsz v n xs hown ad m c news hl hnews h1 h63 hbytes v' w' hr;unfold Oper.wp execOp;simp only [ho,resolve,invoke,builtin,Sem.run_bind,Sem.run_pure,Result.andThen_ok,List.map_toArray,List.map_cons,List.map_nil,hs,hx,hr];exact hK _ _ (h v' w' h2 h3 h4 h5)
end Go.Proofs.YtkiplmabjeadgaaGreat
