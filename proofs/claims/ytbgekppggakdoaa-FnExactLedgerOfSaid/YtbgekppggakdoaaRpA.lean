/-
  slices.Repeat of one machine.
-/
import Derived.Test.YtbgekppggakdoaaHlA
import Derived.Laws.CopyOwn
namespace Go.Proofs.Ytbgekppggakdoaa
open Go.ChangeShapes Go.WideShapes Go.ChangeAt Go.RowKit
set_option linter.unusedVariables false
set_option linter.unusedSimpArgs false

set_option maxHeartbeats 2000000 in
theorem mul64_any (m : Nat) (h1 : 1 ≤ m) (h2 : m ≤ 6) (w : World) : Calls Try.prog 78 #[.int .u64 1, .int .u64 (m : Int)] w fun e w' => e = .returned (.tuple #[.int .u64 0, .int .u64 (m : Int)]) ∧ w' = w := by
  obtain rfl | rfl | rfl | rfl | rfl | rfl : m = 1 ∨ m = 2 ∨ m = 3 ∨ m = 4 ∨ m = 5 ∨ m = 6 := by omega
  all_goals
    go_enter Try.func78, Try.ntmps78
    go_wp2_with fail
    exact bodyPost_ret (by simp [results, Try.results78, go_sem]; rfl) rfl ⟨rfl, rfl⟩
set_option maxHeartbeats 1000000 in
theorem mul_any (m : Nat) (h1 : 1 ≤ m) (h2 : m ≤ 6) (w : World) : Calls Try.prog 75 #[.int .u64 1, .int .u64 (m : Int)] w fun e w' => e = .returned (.tuple #[.int .u64 0, .int .u64 (m : Int)]) ∧ w' = w := by
  have HC := hide (mul64_any m h1 h2 w)
  go_enter Try.func75, Try.ntmps75
  go_wp2_with fail
  refine (unhide HC).mono ?_
  rintro e w' ⟨rfl, rfl⟩
  go_wp2_with fail
  exact bodyPost_ret (v := .tuple #[.int .u64 0, .int .u64 (m : Int)]) (by simp [results, Try.results75, go_sem]) rfl ⟨rfl, rfl⟩
theorem mc_size : (Try.prog.info? 122).map (·.size) = some 3 := by kernel_rfl
theorem run_copy_at {P : Program} (w : World) (dT sT ty elem k : Nat) (g d dLen dCap : Nat) (a : Addr) (sLen sCap : Nat) (cur : List Value) (t : TypeId) (cs : List Value)
    (hu : P.underlying dT = some (.slice elem)) (hs : (P.info? elem).map (·.size) = some k)
    (hg : vb w g t cur) (hn : cs.length = Nat.min sLen dLen * k)
    (hsrc : ∀ j v, cs[j]? = some v → w.cell? (a.add j) = some v) (hfit : d + cs.length ≤ cur.length) (h1 : ∀ v ∈ cs, v.oneCell' = true) :
    (Builtin.copy_ #[dT, sT] ty #[.slice (some ⟨g, d, none⟩) dLen dCap, .slice (some a) sLen sCap]).run P w =
      .ok (goInt (Nat.min sLen dLen)) (w.setRow g (cur.take d ++ cs ++ cur.drop (d + cs.length)).toArray) := by
  have hl := run_loadCells_list (P := P) w a cs hsrc
  have hst := run_storeCells_at P g d t cs 0 cur.toArray w hg (by simpa using hfit) h1
  simp only [Nat.add_zero] at hst
  cases hq : P.info? elem with
  | none => simp [hq] at hs
  | some i =>
    have hi : i.size = k := by simpa [hq] using hs
    simp [Builtin.copy_, run_underlying hu, Builtin.lenOf, Builtin.firstCells, sizeOf, typeInfo, hq, hi, ← hn, hl, hst]
def mz : Mch := ⟨0, 0, 0⟩
/-- the first k machines are there -/
def rpt (m k : Nat) : List Mch := List.replicate k mc0 ++ List.replicate (m - k) mz
theorem mcc_one (l : List Mch) : ∀ v ∈ flatG mcc l, v.oneCell' = true := by
  induction l with
  | nil => intro v hv; cases hv
  | cons a l ih =>
    intro v hv
    rcases List.mem_append.1 hv with h | h
    · simp only [mcc, List.mem_cons, List.not_mem_nil, or_false] at h
      rcases h with rfl | rfl | rfl <;> rfl
    · exact ih v h
theorem rpt_copy (m k q : Nat) (hk : k ≤ m) (hq : k + q ≤ m) : (flatG mcc (rpt m k)).take (k * 3) ++ flatG mcc (List.replicate q mc0) ++ (flatG mcc (rpt m k)).drop (k * 3 + (flatG mcc (List.replicate q mc0)).length) = flatG mcc (rpt m (k + q)) := by
  have e1 : rpt m k = List.replicate k mc0 ++ (List.replicate q mz ++ List.replicate (m - (k + q)) mz) := by
    unfold rpt
    rw [List.replicate_append_replicate]
    congr 2
    omega
  have e2 : rpt m (k + q) = List.replicate k mc0 ++ (List.replicate q mc0 ++ List.replicate (m - (k + q)) mz) := by
    unfold rpt
    rw [← List.append_assoc, List.replicate_append_replicate]
  rw [e1, e2]
  simp only [flatG_append]
  have l1 : (flatG mcc (List.replicate k mc0)).length = k * 3 := by rw [flatG_len mcc_len]; simp
  have l2 : (flatG mcc (List.replicate q mc0)).length = q * 3 := by rw [flatG_len mcc_len]; simp
  have l3 : (flatG mcc (List.replicate q mz)).length = q * 3 := by rw [flatG_len mcc_len]; simp
  rw [l2, List.take_left' l1, ← List.append_assoc (flatG mcc (List.replicate k mc0)) (flatG mcc (List.replicate q mz)), List.drop_left' (by rw [List.length_append, l1, l3]), List.append_assoc]
theorem mach_info : (Try.prog.info? 122).map (fun i => (i.zero, i.size, i.bytes)) = some (some (.agg #[.int .i64 0, .int .i64 0, .int .i64 0]), 3, 24) := by kernel_rfl
theorem make_mach (n : Nat) (hn : n ≤ 1048576) (W : World) :
    (Instr.makeSlice 82 (.int .i64 (n : Int)) (.int .i64 (n : Int))).run Try.prog W = .ok (.slice (some ⟨W.heap.size, 0, none⟩) n n) (W.alloc (.cells (flatG mcc (rpt n 0)).toArray 122)) := by
  obtain ⟨i, hx, h0, h1, h2⟩ := info_parts mach_info
  have := run_make (P := Try.prog) W 82 122 i _ Try.underlying82 hx h0 .i64 .i64 n n (by omega) (by omega) (by rw [h2]; omega) (by omega)
  rw [Int.toNat_natCast, h1, made_flat (c := mcc) (by omega) mcc_len mz _ rfl] at this
  exact this
theorem setRow_vb {w : World} {g t : Nat} {cur : List Value} (h : vb w g t cur) (cs : List Value) : vb (w.setRow g cs.toArray) g t cs := setRow_heap w g cur.toArray cs.toArray t (0, 0) h
theorem below_row {B g : Nat} {w0 w : World} (hb : Below B w0 w) (hBg : B ≤ g) (cs : Array Value) : Below B w0 (w.setRow g cs) := below_setRow hb hBg cs
set_option maxRecDepth 100000 in
set_option maxHeartbeats 4000000 in
theorem rep_any (m gx : Nat) (h1 : 1 ≤ m) (h2 : m ≤ 6) (w : World) (hx0 : w.cell? ⟨gx, 0, none⟩ = some (.int .i64 (-1))) (hx1 : w.cell? ⟨gx, 1, none⟩ = some (.int .i64 0)) (hx2 : w.cell? ⟨gx, 2, none⟩ = some (.int .i64 0)) :
    Calls Try.prog 69 #[.slice (some ⟨gx, 0, none⟩) 1 1, .int .i64 (m : Int)] w fun e w' => (∃ g, e = .returned (.slice (some ⟨g, 0, none⟩) m m) ∧ w.heap.size ≤ g ∧ vb w' g 122 (flatG mcc (List.replicate m mc0))) ∧ Below w.heap.size w w' := by
  have HX : Hid (∀ j v, (mcc mc0)[j]? = some v → w.cell? ⟨gx, j, none⟩ = some v) := hide (by
    intro j v hj
    rcases j with _ | _ | _ | j <;> simp [mcc, mc0] at hj <;> subst hj
    · exact hx0
    · exact hx1
    · exact hx2)
  clear hx0 hx1 hx2
  have HC := hide (fun W => mul_any m h1 h2 W)
  have m0 : (0 : Int) ≤ (m : Int) := Int.natCast_nonneg _
  have t0 : decide ((m : Int) < 0) = false := decide_eq_false (by omega)
  have c1 : IntKind.u64.wrap (m : Int) = (m : Int) := by simp only [IntKind.wrap, IntKind.bits, IntKind.signed]; simp; omega
  have c2 : IntKind.i64.wrap (m : Int) = (m : Int) := wrap_i (by omega) (by omega)
  have t1 : decide ((9223372036854775807 : Int) < (m : Int)) = false := decide_eq_false (by omega)
  have hmk := make_mach m (by omega)
  go_enter Try.func69, Try.ntmps69
  go_wp2_with fail
  refine (unhide HC _).mono ?_
  rintro e w' ⟨rfl, rfl⟩
  have hcp := run_copy_at (P := Try.prog) (w'.alloc (.cells (flatG mcc (rpt m 0)).toArray 122)) 82 82 3 122 3 w'.heap.size 0 m m ⟨gx, 0, none⟩ 1 1 (flatG mcc (rpt m 0)) 122 (mcc mc0) Try.underlying82 mc_size (vb_new _ _ _ _ rfl) (by rw [show Nat.min 1 m = 1 from Nat.min_eq_left h1]; rfl)
    (fun j v hj => by rw [add_none, Nat.zero_add]; exact ka (unhide HX j v hj)) (by rw [flatG_len mcc_len]; simp [rpt, mcc]; omega) (by intro v hv; exact mcc_one [mc0] v (by simpa [flatG] using hv))
  rw [show Nat.min 1 m = 1 from Nat.min_eq_left h1] at hcp
  have HV0 := hide (setRow_vb (vb_new w' 122 (flatG mcc (rpt m 0)) _ rfl) ((flatG mcc (rpt m 0)).take 0 ++ mcc mc0 ++ (flatG mcc (rpt m 0)).drop (0 + (mcc mc0).length)))
  have HB0 := hide (below_row (ba (Below.refl w'.heap.size w') (.cells (flatG mcc (rpt m 0)).toArray 122)) (Nat.le_refl _) ((flatG mcc (rpt m 0)).take 0 ++ mcc mc0 ++ (flatG mcc (rpt m 0)).drop (0 + (mcc mc0).length)).toArray)
  have HE1 : Hid ((flatG mcc (rpt m 0)).take 0 ++ mcc mc0 ++ (flatG mcc (rpt m 0)).drop (0 + (mcc mc0).length) = flatG mcc (rpt m 1)) := hide (by have := rpt_copy m 0 1 (by omega) (by omega); simpa [flatG] using this)
  rw [unhide HE1] at hcp HV0 HB0
  clear HE1
  go_wp2_with fail
  clear hcp hmk
  go_loopw [8] (fun s W => ∃ k : Nat, s = .int .i64 (k : Int) ∧ 1 ≤ k ∧ k ≤ m ∧ vb W w'.heap.size 122 (flatG mcc (rpt m k)) ∧ Below w'.heap.size w' W) (fun s _ => m - (intOf s).toNat)
  case atStart => exact ⟨1, rfl, Nat.le_refl _, h1, unhide HV0, unhide HB0⟩
  case round =>
    obtain ⟨k, rfl, hk1, hkm, hv, hb⟩ := hrel
    have HV := hide hv
    have HB := hide hb
    have k0 : (0 : Int) ≤ (k : Int) := Int.natCast_nonneg _
    clear HV0 HB0
    by_cases h : k < m
    · have i1 : (k : Int) < (m : Int) := by omega
      have iz : decide ((k : Int) < (m : Int)) = true := decide_eq_true i1
      have nk : m ≠ k := by omega
      have nk2 : ¬ (m = k) := by omega
      obtain ⟨q, hmn⟩ : ∃ q, Nat.min k (m - k) = q := ⟨_, rfl⟩
      have q1 : q ≤ k := by rw [← hmn]; exact Nat.min_le_left _ _
      have q2 : q ≤ m - k := by rw [← hmn]; exact Nat.min_le_right _ _
      have q3 : 0 < q := by rw [← hmn]; exact Nat.lt_min.2 ⟨by omega, by omega⟩
      have wk : IntKind.i64.wrap ((k : Int) + (q : Int)) = ((k + q : Nat) : Int) := by rw [wrap_i (by omega) (by omega)]; omega
      have hcp : ∀ X : World, X.heap = wr.heap → (Builtin.copy_ #[82, 82] 3 #[.slice (some ⟨w'.heap.size, k * 3, none⟩) (m - k) (m - k), .slice (some ⟨w'.heap.size, 0, none⟩) k m]).run Try.prog X = .ok (goInt q) (X.setRow w'.heap.size (flatG mcc (rpt m (k + q))).toArray) := by
        intro X hX
        have hv2 : vb X w'.heap.size 122 (flatG mcc (rpt m k)) := by unfold vb; rw [hX]; exact hv
        have := run_copy_at (P := Try.prog) X 82 82 3 122 3 w'.heap.size (k * 3) (m - k) (m - k) ⟨w'.heap.size, 0, none⟩ k m (flatG mcc (rpt m k)) 122 (flatG mcc (List.replicate q mc0)) Try.underlying82 mc_size hv2 (by rw [flatG_len mcc_len, hmn]; simp)
          (fun j v hj => by
            rw [add_none, Nat.zero_add]
            refine hv2.cell ?_
            have hjl := (List.getElem?_eq_some_iff.1 hj).1
            rw [flatG_len mcc_len] at hjl
            have e1 : rpt m k = List.replicate q mc0 ++ (List.replicate (k - q) mc0 ++ List.replicate (m - k) mz) := by
              unfold rpt
              rw [← List.append_assoc, List.replicate_append_replicate, show q + (k - q) = k by omega]
            rw [e1, flatG_append, List.getElem?_append_left (by rw [flatG_len mcc_len]; exact hjl)]
            exact hj) (by rw [flatG_len mcc_len, flatG_len mcc_len]; simp [rpt]; omega) (mcc_one _)
        rw [rpt_copy m k _ hkm (by omega), hmn] at this
        exact this
      have hcp0 := hcp wr rfl
      have hcp1 := hcp wr.drew rfl
      have hcp2 := hcp wr.drew.drew rfl
      clear hmn
      clear hcp hv hb
      go_wp2_with fail
      go_region
      go_wp2_with fail
      go_roundw
      case rel => exact ⟨k + q, by simp, by omega, by omega, setRow_vb (w := wr.drew) (unhide HV) _, below_row (unhide HB).drew (Nat.le_refl _) _⟩
      case measure => first | (simp only [intOf]; omega) | (simp [intOf]; omega)
    · have iz : decide ((k : Int) < (m : Int)) = false := decide_eq_false (by omega)
      have iq : ¬ ((k : Int) < (m : Int)) := by omega
      have en : m = k := by omega
      subst en
      clear hv hb
      go_wp2_with fail
      go_ret
      have r2 := unhide HV
      simp only [rpt, Nat.sub_self, List.replicate_zero, List.append_nil] at r2
      exact ⟨⟨_, rfl, Nat.le_refl _, r2⟩, unhide HB⟩
end Go.Proofs.Ytbgekppggakdoaa
