/-
  Jobs in memory, and the program's looks at steps.
-/
import Derived.Test.YtbgekppggakdoaaPnMath
import Derived.Test.YtbgekppggakdoaaGen
import Derived.Test.YtbgekppggakdoaaNameOK
import Derived.Laws.EntriesVeiled
import Derived.Lib.MinMax
namespace Go.Proofs.Ytbgekppggakdoaa
open Go.ChangeShapes Go.WideShapes Go.ChangeAt Go.RowKit
set_option linter.unusedVariables false
set_option linter.unusedSimpArgs false

def stc (s : Stp) : List Value := [.int .i64 s.m, .int .i64 s.t, .int .i64 s.l, .int .i64 s.e]
def jc (j : Jb) : List Value := [.string j.nm, .int .i64 j.due, .slice j.su j.sn j.sc]
def slc (p : Slt) : List Value := [.int .i64 p.jb, .int .i64 p.st, .int .i64 p.mc, .int .i64 p.fr, .int .i64 p.ti, .bool p.fs]
/-- what a job's own slice says of its steps -/
structure Jo (w : World) (j : Jb) : Prop where
  len : j.st.length = j.sn
  most : j.sn ≤ 9223372036854775807
  nsz : j.nm.size ≤ maxLen
  row : SlG stc 4 w j.su j.sp j.so j.st
/-- jobs lie there -/
structure Jbs (w : World) (u : Option Addr) (p po : Nat) (J : List Jb) : Prop where
  row : SlG jc 3 w u p po J
  each : ∀ j ∈ J, Jo w j
theorem Jo.bel {w w' : World} {j : Jb} (h : Jo w j) (hb : Below w.heap.size w w') : Jo w' j := ⟨h.len, h.most, h.nsz, h.row.bel hb⟩
theorem Jbs.bel {w w' : World} {u : Option Addr} {p po : Nat} {J : List Jb} (h : Jbs w u p po J) (hb : Below w.heap.size w w') : Jbs w' u p po J := ⟨h.row.bel hb, fun j hj => (h.each j hj).bel hb⟩
theorem Jbs.at {w : World} {u : Option Addr} {p po : Nat} {J : List Jb} (h : Jbs w u p po J) {i : Nat} {j : Jb} (hx : J[i]? = some j) :
    u = some ⟨p, po, none⟩ ∧ p < w.heap.size ∧ w.cell? ⟨p, po + i * 3, none⟩ = some (.string j.nm) ∧ w.cell? ⟨p, po + i * 3 + 1, none⟩ = some (.int .i64 j.due) ∧ w.cell? ⟨p, po + i * 3 + 2, none⟩ = some (.slice j.su j.sn j.sc) := by
  obtain ⟨h1, h2, h3⟩ := h.row.at hx
  exact ⟨h1, h2, h3 0 _ rfl, h3 1 _ rfl, h3 2 _ rfl⟩
theorem Jo.at {w : World} {j : Jb} (h : Jo w j) {i : Nat} {s : Stp} (hx : j.st[i]? = some s) :
    j.su = some ⟨j.sp, j.so, none⟩ ∧ j.sp < w.heap.size ∧ w.cell? ⟨j.sp, j.so + i * 4, none⟩ = some (.int .i64 s.m) ∧ w.cell? ⟨j.sp, j.so + i * 4 + 1, none⟩ = some (.int .i64 s.t) ∧ w.cell? ⟨j.sp, j.so + i * 4 + 2, none⟩ = some (.int .i64 s.l) ∧ w.cell? ⟨j.sp, j.so + i * 4 + 3, none⟩ = some (.int .i64 s.e) := by
  obtain ⟨h1, h2, h3⟩ := h.row.at hx
  exact ⟨h1, h2, h3 0 _ rfl, h3 1 _ rfl, h3 2 _ rfl, h3 3 _ rfl⟩
theorem bt_any (x a b : Int) (w : World) : Calls Try.prog 31 #[.int .i64 x, .int .i64 a, .int .i64 b] w fun e w' => e = .returned (.bool (inR a b x)) ∧ w' = w := by
  by_cases h1 : a ≤ x
  · by_cases h2 : x ≤ b
    · have t1 := decide_eq_true h1
      have t2 := decide_eq_true h2
      go_enter Try.func31, Try.ntmps31
      go_wp2_with fail
      go_ret
      exact ⟨by simp [inR, h1, h2], rfl⟩
    · have t1 := decide_eq_true h1
      have t2 := decide_eq_false h2
      go_enter Try.func31, Try.ntmps31
      go_wp2_with fail
      go_ret
      exact ⟨by simp [inR, h1, h2], rfl⟩
  · have t1 := decide_eq_false h1
    go_enter Try.func31, Try.ntmps31
    go_wp2_with fail
    go_ret
    exact ⟨by unfold inR; rw [t1]; rfl, rfl⟩
set_option maxHeartbeats 1000000 in
theorem wst_any (N S L : Int) (a b c d : Int) (w : World) (h1 : 1 ≤ N) (h2 : N ≤ 6) :
    Calls Try.prog 55 #[.agg #[.int .i64 N, .int .i64 S, .int .i64 L], .agg #[.int .i64 a, .int .i64 b, .int .i64 c, .int .i64 d]] w fun e w' => e = .returned (.bool (!stOk N L ⟨a, b, c, d⟩)) ∧ Below w.heap.size w w' := by
  have HQ : Hid (stOk N L ⟨a, b, c, d⟩ = (inR 0 (N - 1) a && (inR 1 1000 b && (inR 0 9 c && inR 0 L d)))) := hide rfl
  have ew : IntKind.i64.wrap (N - 1) = N - 1 := wrap_i (by omega) (by omega)
  go_enter Try.func55, Try.ntmps55
  go_wp2_with fail
  refine (bt_any a 0 (N - 1) _).mono ?_
  rintro e w' ⟨rfl, rfl⟩
  cases t1 : inR 0 (N - 1) a with
  | false =>
    go_wp2_with fail
    go_ret
    exact ⟨by rw [unhide HQ, t1]; rfl, ba (ba (Below.refl _ _) _) _⟩
  | true =>
    go_wp2_with fail
    refine (bt_any b 1 1000 _).mono ?_
    rintro e w' ⟨rfl, rfl⟩
    cases t2 : inR 1 1000 b with
    | false =>
      go_wp2_with fail
      go_ret
      exact ⟨by rw [unhide HQ, t1, t2]; rfl, ba (ba (Below.refl _ _) _) _⟩
    | true =>
      go_wp2_with fail
      refine (bt_any c 0 9 _).mono ?_
      rintro e w' ⟨rfl, rfl⟩
      cases t3 : inR 0 9 c with
      | false =>
        go_wp2_with fail
        go_ret
        exact ⟨by rw [unhide HQ, t1, t2, t3]; rfl, ba (ba (Below.refl _ _) _) _⟩
      | true =>
        go_wp2_with fail
        refine (bt_any d 0 L _).mono ?_
        rintro e w' ⟨rfl, rfl⟩
        go_wp2_with fail
        go_ret
        exact ⟨by rw [unhide HQ, t1, t2, t3]; simp, ba (ba (Below.refl _ _) _) _⟩
set_option maxHeartbeats 1000000 in
theorem ixs_any (N S L : Int) (j : Jb) (w : World) (h1 : 1 ≤ N) (h2 : N ≤ 6) (hj : Jo w j) :
    Calls Try.prog 67 #[.slice j.su j.sn j.sc, .func (.func 55) #[.agg #[.int .i64 N, .int .i64 S, .int .i64 L]] #[]] w fun e w' => (∃ r : Int, e = .returned (.int .i64 r) ∧ decide (0 ≤ r) = !j.st.all (stOk N L)) ∧ Below w.heap.size w w' := by
  obtain ⟨nm, due, u, n, c, p, po, T⟩ := j
  have HU := hide (fun W (hW : Below w.heap.size w W) => hj.bel hW)
  have hl : T.length = n := hj.len
  have hn : n ≤ 9223372036854775807 := hj.most
  have HL := hide hl
  have HC : Hid (∀ s ∈ T, ∀ W, Calls Try.prog 55 #[.agg #[.int .i64 N, .int .i64 S, .int .i64 L], .agg #[.int .i64 s.m, .int .i64 s.t, .int .i64 s.l, .int .i64 s.e]] W fun e w' => e = .returned (.bool (!stOk N L s)) ∧ Below W.heap.size W w') := hide (fun s _ W => wst_any N S L s.m s.t s.l s.e W h1 h2)
  have n0 : (0 : Int) ≤ (n : Int) := Int.natCast_nonneg _
  clear hj hl h1 h2
  generalize hqv : (.agg #[.int .i64 N, .int .i64 S, .int .i64 L] : Value) = qv at HC ⊢
  clear hqv
  simp only []
  go_enter Try.func67, Try.ntmps67
  go_wp2_with fail
  go_loopw [5, 8] (fun _ s W => ∃ i : Nat, s = .int .i64 (i : Int) ∧ i ≤ n ∧ (T.take i).all (stOk N L) = true ∧ Below w.heap.size w W) (fun _ s _ => n - (intOf s).toNat)
  case atStart => exact ⟨0, rfl, Nat.zero_le _, by simp, Below.refl _ _⟩
  case round =>
    obtain ⟨i, rfl, hi, ha, hb⟩ := hrel
    have HA := hide ha
    have HB := hide hb
    clear ha
    by_cases h : i < n
    · have i1 : (i : Int) < (n : Int) := by omega
      have i0 : (0 : Int) ≤ (i : Int) := Int.natCast_nonneg _
      have iz : decide ((i : Int) < (n : Int)) = true := decide_eq_true i1
      obtain ⟨s, hx⟩ := get_some (unhide HL) h
      obtain ⟨hu0, pw, k0, k1, k2, k3⟩ := (unhide HU _ hb).at hx
      simp only [] at hu0 pw k0 k1 k2 k3
      subst hu0
      have HAX := hide (alls_take (stOk N L) hx)
      have HX := hide hx
      have HCs := hide (unhide HC s (List.mem_of_getElem? hx))
      clear pw hx hb
      go_wp2_with fail
      refine (unhide HCs _).mono ?_
      rintro e W2 ⟨rfl, hb2⟩
      have HB2 := hide (bc (unhide HB) hb2)
      clear hb2
      cases hto : stOk N L s with
      | true =>
        go_wp2_with fail
        go_roundw
        case rel => first | exact ⟨i + 1, by simp, h, by rw [unhide HAX, unhide HA, hto]; rfl, unhide HB2⟩ | ((repeat apply Exists.intro); refine ⟨?_, rfl⟩; exact ⟨i + 1, by simp, h, by rw [unhide HAX, unhide HA, hto]; rfl, unhide HB2⟩)
        case measure => first | (simp only [intOf]; omega) | (simp [intOf]; omega)
      | false =>
        go_wp2_with fail
        go_ret
        refine ⟨⟨_, rfl, ?_⟩, unhide HB2⟩
        rw [alls_not _ (unhide HX) hto]
        simp
    · have iz : decide ((i : Int) < (n : Int)) = false := decide_eq_false (by omega)
      have HE : Hid (T.all (stOk N L) = true) := hide (alls_full _ (by rw [unhide HL]; omega) (unhide HA))
      clear hb
      go_wp2_with fail
      go_ret
      refine ⟨⟨_, rfl, ?_⟩, unhide HB⟩
      rw [unhide HE]
      rfl
theorem cns_any (N S L : Int) (j : Jb) (w : World) (h1 : 1 ≤ N) (h2 : N ≤ 6) (hj : Jo w j) :
    Calls Try.prog 54 #[.slice j.su j.sn j.sc, .func (.func 55) #[.agg #[.int .i64 N, .int .i64 S, .int .i64 L]] #[]] w fun e w' => e = .returned (.bool (!j.st.all (stOk N L))) ∧ Below w.heap.size w w' := by
  have H := hide (ixs_any N S L j w h1 h2 hj)
  clear h1 h2 hj
  go_enter Try.func54, Try.ntmps54
  go_wp2_with fail
  refine (unhide H).mono ?_
  rintro e w' ⟨⟨r, rfl, hr⟩, hb⟩
  have HB := hide hb
  clear hb
  go_wp2_with fail
  go_ret
  exact ⟨by rw [← hr]; rfl, unhide HB⟩
set_option maxHeartbeats 1000000 in
theorem wjb_any (N S L : Int) (j : Jb) (w : World) (h1 : 1 ≤ N) (h2 : N ≤ 6) (hj : Jo w j) :
    Calls Try.prog 33 #[.agg #[.int .i64 N, .int .i64 S, .int .i64 L], .agg #[.string j.nm, .int .i64 j.due, .slice j.su j.sn j.sc]] w fun e w' => e = .returned (.bool (!jbOk N L j)) ∧ Below w.heap.size w w' := by
  have HQ : Hid (jbOk N L j = (nameB j.nm && (inR 0 1000000 j.due && (inR 1 8 (j.sn : Int) && j.st.all (stOk N L))))) := hide (by unfold jbOk; rw [hj.len])
  have HN := hide (fun W => implName_any j.nm W hj.nsz)
  have HC := hide (fun W (hW : Below w.heap.size w W) => cns_any N S L j W h1 h2 (hj.bel hW))
  have HA := hide (ba (ba (Below.refl w.heap.size w) (.cells #[.int .i64 N, .int .i64 S, .int .i64 L] 27)) (.cells #[.string j.nm, .int .i64 j.due, .slice j.su j.sn j.sc] 58))
  have n0 : (0 : Int) ≤ (j.sn : Int) := Int.natCast_nonneg _
  clear hj h1 h2
  obtain ⟨nm, due, u, n, c, p, po, T⟩ := j
  simp only [] at *
  go_enter Try.func33, Try.ntmps33
  go_wp2_with fail
  refine (unhide HN _).mono ?_
  rintro e W1 ⟨rfl, hb⟩
  have a0 := keep1 hb (b := w.heap.size) (o := 0) (v := .int .i64 N) (by simp (maxDischargeDepth := 12) [go_sem, le1, lt1])
  have a1 := keep1 hb (b := w.heap.size) (o := 1) (v := .int .i64 S) (by simp (maxDischargeDepth := 12) [go_sem, le1, lt1])
  have a2 := keep1 hb (b := w.heap.size) (o := 2) (v := .int .i64 L) (by simp (maxDischargeDepth := 12) [go_sem, le1, lt1])
  have b1 := keep1 hb (b := w.heap.size + 1) (o := 1) (v := .int .i64 due) (by simp (maxDischargeDepth := 12) [go_sem, le1, lt1])
  have b2 := keep1 hb (b := w.heap.size + 1) (o := 2) (v := .slice u n c) (by simp (maxDischargeDepth := 12) [go_sem, le1, lt1])
  have HB := hide (bc (unhide HA) hb)
  clear hb
  cases t1 : nameB nm with
  | false =>
    go_wp2_with fail
    go_ret
    exact ⟨by rw [unhide HQ, t1]; rfl, unhide HB⟩
  | true =>
    go_wp2_with fail
    refine (bt_any due 0 1000000 _).mono ?_
    rintro e w' ⟨rfl, rfl⟩
    cases t2 : inR 0 1000000 due with
    | false =>
      go_wp2_with fail
      go_ret
      exact ⟨by rw [unhide HQ, t1, t2]; rfl, unhide HB⟩
    | true =>
      go_wp2_with fail
      refine (bt_any (n : Int) 1 8 _).mono ?_
      rintro e w' ⟨rfl, rfl⟩
      cases t3 : inR 1 8 (n : Int) with
      | false =>
        go_wp2_with fail
        go_ret
        exact ⟨by rw [unhide HQ, t1, t2, t3]; rfl, unhide HB⟩
      | true =>
        go_wp2_with fail
        refine (unhide HC _ (unhide HB)).mono ?_
        rintro e w' ⟨rfl, hb⟩
        have HB2 := hide (bc (unhide HB) hb)
        clear hb
        go_wp2_with fail
        go_ret
        exact ⟨by rw [unhide HQ, t1, t2, t3]; simp, unhide HB2⟩
set_option maxHeartbeats 1000000 in
theorem ixj_any (N S L : Int) (u : Option Addr) (p po n c : Nat) (J : List Jb) (w : World) (h1 : 1 ≤ N) (h2 : N ≤ 6) (hl : J.length = n) (hn : n ≤ 9223372036854775807) (hu : Jbs w u p po J) :
    Calls Try.prog 52 #[.slice u n c, .func (.func 33) #[.agg #[.int .i64 N, .int .i64 S, .int .i64 L]] #[]] w fun e w' => (∃ r : Int, e = .returned (.int .i64 r) ∧ decide (0 ≤ r) = !J.all (jbOk N L)) ∧ Below w.heap.size w w' := by
  have HU := hide (fun W (hW : Below w.heap.size w W) => hu.bel hW)
  have HL := hide hl
  have HC : Hid (∀ j ∈ J, ∀ W, Below w.heap.size w W → Calls Try.prog 33 #[.agg #[.int .i64 N, .int .i64 S, .int .i64 L], .agg #[.string j.nm, .int .i64 j.due, .slice j.su j.sn j.sc]] W fun e w' => e = .returned (.bool (!jbOk N L j)) ∧ Below W.heap.size W w') := hide (fun j hj W hW => wjb_any N S L j W h1 h2 ((hu.each j hj).bel hW))
  have n0 : (0 : Int) ≤ (n : Int) := Int.natCast_nonneg _
  clear hu hl h1 h2
  generalize hqv : (.agg #[.int .i64 N, .int .i64 S, .int .i64 L] : Value) = qv at HC ⊢
  clear hqv
  go_enter Try.func52, Try.ntmps52
  go_wp2_with fail
  go_loopw [5, 8] (fun _ s W => ∃ i : Nat, s = .int .i64 (i : Int) ∧ i ≤ n ∧ (J.take i).all (jbOk N L) = true ∧ Below w.heap.size w W) (fun _ s _ => n - (intOf s).toNat)
  case atStart => exact ⟨0, rfl, Nat.zero_le _, by simp, Below.refl _ _⟩
  case round =>
    obtain ⟨i, rfl, hi, ha, hb⟩ := hrel
    have HA := hide ha
    have HB := hide hb
    clear ha
    by_cases h : i < n
    · have i1 : (i : Int) < (n : Int) := by omega
      have i0 : (0 : Int) ≤ (i : Int) := Int.natCast_nonneg _
      have iz : decide ((i : Int) < (n : Int)) = true := decide_eq_true i1
      obtain ⟨s, hx⟩ := get_some (unhide HL) h
      obtain ⟨rfl, pw, k0, k1, k2⟩ := (unhide HU _ hb).at hx
      have HAX := hide (alls_take (jbOk N L) hx)
      have HX := hide hx
      have HCs := hide (unhide HC s (List.mem_of_getElem? hx))
      clear pw hx hb
      go_wp2_with fail
      refine (unhide HCs _ (by first | exact unhide HB | exact ba (unhide HB) _)).mono ?_
      rintro e W2 ⟨rfl, hb2⟩
      have HB2 : Hid (Below w.heap.size w W2) := hide (by first | exact bc (unhide HB) hb2 | exact bc (ba (unhide HB) _) hb2)
      clear hb2
      cases hto : jbOk N L s with
      | true =>
        go_wp2_with fail
        go_roundw
        case rel => first | exact ⟨i + 1, by simp, h, by rw [unhide HAX, unhide HA, hto]; rfl, unhide HB2⟩ | ((repeat apply Exists.intro); refine ⟨?_, rfl⟩; exact ⟨i + 1, by simp, h, by rw [unhide HAX, unhide HA, hto]; rfl, unhide HB2⟩)
        case measure => first | (simp only [intOf]; omega) | (simp [intOf]; omega)
      | false =>
        go_wp2_with fail
        go_ret
        refine ⟨⟨_, rfl, ?_⟩, unhide HB2⟩
        rw [alls_not _ (unhide HX) hto]
        simp
    · have iz : decide ((i : Int) < (n : Int)) = false := decide_eq_false (by omega)
      have HE : Hid (J.all (jbOk N L) = true) := hide (alls_full _ (by rw [unhide HL]; omega) (unhide HA))
      clear hb
      go_wp2_with fail
      go_ret
      refine ⟨⟨_, rfl, ?_⟩, unhide HB⟩
      rw [unhide HE]
      rfl
theorem cnj_any (N S L : Int) (u : Option Addr) (p po n c : Nat) (J : List Jb) (w : World) (h1 : 1 ≤ N) (h2 : N ≤ 6) (hl : J.length = n) (hn : n ≤ 9223372036854775807) (hu : Jbs w u p po J) :
    Calls Try.prog 32 #[.slice u n c, .func (.func 33) #[.agg #[.int .i64 N, .int .i64 S, .int .i64 L]] #[]] w fun e w' => e = .returned (.bool (!J.all (jbOk N L))) ∧ Below w.heap.size w w' := by
  have H := hide (ixj_any N S L u p po n c J w h1 h2 hl hn hu)
  clear h1 h2 hl hu
  go_enter Try.func32, Try.ntmps32
  go_wp2_with fail
  refine (unhide H).mono ?_
  rintro e w' ⟨⟨r, rfl, hr⟩, hb⟩
  have HB := hide hb
  clear hb
  go_wp2_with fail
  go_ret
  exact ⟨by rw [← hr]; rfl, unhide HB⟩
end Go.Proofs.Ytbgekppggakdoaa
