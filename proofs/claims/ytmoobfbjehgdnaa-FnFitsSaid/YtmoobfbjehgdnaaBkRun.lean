/-
  The told holes as the program finds them: one after another.
-/
import Derived.Test.YtmoobfbjehgdnaaBkFix
import Derived.Test.YtmoobfbjehgdnaaSoRow
namespace Go.Proofs.Ytmoobfbjehgdnaa
set_option linter.unusedVariables false
set_option linter.unusedSimpArgs false

theorem rise_eq : ∀ {L M : List Int}, L.Pairwise (· < ·) → M.Pairwise (· < ·) → (∀ x, x ∈ L ↔ x ∈ M) → L = M := by
  intro L
  induction L with
  | nil =>
    intro M _ _ h
    cases M with
    | nil => rfl
    | cons y M => exact absurd ((h y).2 List.mem_cons_self) (by simp)
  | cons x L ih =>
    intro M hL hM h
    cases M with
    | nil => exact absurd ((h x).1 List.mem_cons_self) (by simp)
    | cons y M =>
      rw [List.pairwise_cons] at hL hM
      have exy : x = y := by
        rcases List.mem_cons.1 ((h x).1 List.mem_cons_self) with e | e
        · exact e
        · rcases List.mem_cons.1 ((h y).2 List.mem_cons_self) with e2 | e2
          · exact e2.symm
          · have := hL.1 y e2; have := hM.1 x e; omega
      subst exy
      congr 1
      refine ih hL.2 hM.2 (fun z => ?_)
      constructor
      · intro hz
        rcases List.mem_cons.1 ((h z).1 (List.mem_cons_of_mem _ hz)) with e | e
        · have := hL.1 z hz; omega
        · exact e
      · intro hz
        rcases List.mem_cons.1 ((h z).2 (List.mem_cons_of_mem _ hz)) with e | e
        · have := hM.1 z hz; omega
        · exact e
theorem those_mem {P : Int → Prop} {n : Nat} {x : Int} : x ∈ those P n ↔ 0 ≤ x ∧ x < (n : Int) ∧ P x := by
  unfold those
  simp only [List.mem_map, List.mem_filter, List.mem_range, decide_eq_true_eq]
  constructor
  · rintro ⟨k, ⟨h1, h2⟩, rfl⟩
    exact ⟨by omega, by omega, h2⟩
  · rintro ⟨h1, h2, h3⟩
    exact ⟨x.toNat, ⟨by omega, by rw [Int.toNat_of_nonneg h1]; exact h3⟩, by omega⟩
theorem those_rise (P : Int → Prop) (n : Nat) : (those P n).Pairwise (· < ·) := by
  unfold those
  rw [List.pairwise_map]
  refine List.Pairwise.imp ?_ (List.Pairwise.filter _ List.pairwise_lt_range)
  intro a b h
  exact Int.ofNat_lt.2 h
theorem srt_those {L : List Int} {P : Int → Prop} {n : Nat} (hd : L.Nodup) (h : ∀ x, x ∈ L ↔ 0 ≤ x ∧ x < (n : Int) ∧ P x) : srt L = those P n := by
  refine rise_eq ?_ (those_rise P n) (fun x => by rw [(srt_perm L).mem_iff, h, those_mem])
  have hn : (srt L).Nodup := (srt_perm L).nodup_iff.2 hd
  refine List.Pairwise.imp₂ (R := (· ≤ ·)) (S := (· ≠ ·)) ?_ (srt_rise L) hn
  intro a b h1 h2
  omega
theorem nodup_le {L : List Int} {n : Nat} (hd : L.Nodup) (h : ∀ x ∈ L, 0 ≤ x ∧ x < (n : Int)) : L.length ≤ n := by
  have e : srt L = those (fun x => x ∈ L) n := srt_those hd (fun x => ⟨fun hx => ⟨(h x hx).1, (h x hx).2, hx⟩, fun hx => hx.2.2⟩)
  have h1 := srt_len L
  rw [e] at h1
  rw [← h1]
  unfold those
  rw [List.length_map]
  exact Nat.le_trans (List.length_filter_le _ _) (by simp)
/-- the hole of a shaft -/
def holeOf (ps : List (Int × Int)) (s : Int) : Int := ((ps.find? (fun p => p.2 == s)).map Prod.fst).getD 0
section
variable {H S : List Int} {lo hi : Int}
theorem holeOf_pair {a b : Int} (h : (a, b) ∈ (fin H S lo hi).ps) : holeOf (fin H S lo hi).ps b = a := by
  unfold holeOf
  cases hf : (fin H S lo hi).ps.find? (fun p => p.2 == b) with
  | none =>
    rw [List.find?_eq_none] at hf
    exact absurd (hf _ h) (by simp)
  | some p =>
    have h1 := List.find?_some hf
    have h2 := List.mem_of_find?_eq_some hf
    simp only [beq_iff_eq] at h1
    obtain ⟨p1, p2⟩ := p
    simp only at h1
    subst h1
    exact pair_shaft h2 h
theorem al_nodup : (fin H S lo hi).al.Nodup := by
  have h : ∀ i, i ≤ (ordL H H.length).length → (pgo H S lo hi ((ordL H H.length).take i) (ordL S S.length)).al.Nodup := by
    intro i
    induction i with
    | zero => intro _; simp [pgo, pst0]
    | succ i ih =>
      intro hi'
      obtain ⟨x, hx⟩ : ∃ x, (ordL H H.length)[i]? = some x := ⟨_, List.getElem?_eq_getElem (by omega)⟩
      have h1 := ih (by omega)
      rw [pgo_succ hx]
      unfold pstep
      split
      · exact h1
      · show (_ ++ [x]).Nodup
        rw [List.nodup_append]
        refine ⟨h1, by simp, ?_⟩
        intro a ha b hb
        rw [List.mem_singleton] at hb
        subst hb
        rintro rfl
        obtain ⟨j, hj, e1, _⟩ := ((pairs_iff i (by omega) a 0).2).1 ha
        have := ord_inj e1 hx
        omega
  have h2 := h _ (Nat.le_refl _)
  rw [List.take_length] at h2
  exact h2
/-- a run: the holes told so far, the shafts told so far, and their marks -/
structure Run (H S : List Int) (lo hi : Int) (Hs Ss : List Int) (T : List Bool) : Prop where
  lt : T.length = S.length
  hs : Hs = (fin H S lo hi).al ++ Ss.map (holeOf (fin H S lo hi).ps)
  nd : Ss.Nodup
  mem : ∀ k, k < S.length → (bt T k = true ↔ (k : Int) ∈ Ss)
  ts : ∀ s ∈ Ss, TS H S lo hi s
theorem Run.none : Run H S lo hi (fin H S lo hi).al [] (List.replicate S.length false) := ⟨by simp, by simp, by simp, fun k _ => by rw [bt_rep]; simp, by simp⟩
theorem TS.pair {s : Int} (h : TS H S lo hi s) : (holeOf (fin H S lo hi).ps s, s) ∈ (fin H S lo hi).ps ∧ TH H S lo hi (holeOf (fin H S lo hi).ps s) := by
  obtain ⟨hb, a, ha, hf⟩ := h
  obtain ⟨a', hp, ht⟩ := ha.paired hb hf
  rw [holeOf_pair hp]
  exact ⟨hp, ht⟩
variable {Hs Ss : List Int} {T : List Bool}
theorem Run.th (h : Run H S lo hi Hs Ss T) : ∀ a ∈ Hs, TH H S lo hi a := by
  intro a ha
  rw [h.hs, List.mem_append] at ha
  rcases ha with ha | ha
  · exact .alone ha
  · obtain ⟨s, hs, rfl⟩ := List.mem_map.1 ha
    exact (h.ts s hs).pair.2
theorem Run.nodup (h : Run H S lo hi Hs Ss T) : Hs.Nodup := by
  rw [h.hs, List.nodup_append]
  refine ⟨al_nodup, ?_, ?_⟩
  · rw [List.Nodup, List.pairwise_map]
    refine List.Pairwise.imp_of_mem ?_ h.nd
    intro a b ha hb hab e
    have h1 := (h.ts a ha).pair.1
    have h2 := (h.ts b hb).pair.1
    rw [e] at h1
    exact hab (pair_hole h1 h2)
  · intro a ha b hb e
    subst e
    obtain ⟨s, hs, e2⟩ := List.mem_map.1 hb
    have h1 := (h.ts s hs).pair.1
    rw [e2] at h1
    exact lone_pair ha h1
theorem Run.len (h : Run H S lo hi Hs Ss T) : Hs.length ≤ H.length ∧ Ss.length ≤ S.length :=
  ⟨nodup_le h.nodup (fun x hx => (h.th x hx).in), nodup_le h.nd (fun x hx => (h.ts x hx).1)⟩
theorem Run.next (h : Run H S lo hi Hs Ss T) {a : Int} (ha : a ∈ Hs) {k : Nat} (hk : k < S.length) (hT : bt T k = false) (hf : fitB H S lo hi a (k : Int) = true) : Run H S lo hi (Hs ++ [holeOf (fin H S lo hi).ps (k : Int)]) (Ss ++ [(k : Int)]) (T.set k true) := by
  refine ⟨by rw [List.length_set]; exact h.lt, ?_, ?_, ?_, ?_⟩
  · rw [List.map_append, ← List.append_assoc, ← h.hs]; rfl
  · rw [List.nodup_append]
    refine ⟨h.nd, by simp, ?_⟩
    intro x hx y hy e
    rw [List.mem_singleton] at hy
    rw [e, hy] at hx
    rw [(h.mem k hk).2 hx] at hT
    cases hT
  · intro j hj
    rw [bt_set _ _ _ _ (by rw [h.lt]; exact hk), List.mem_append, List.mem_singleton]
    by_cases e : j = k
    · subst e; simp
    · rw [if_neg e, h.mem j hj]
      constructor
      · exact .inl
      · rintro (h1 | h1)
        · exact h1
        · omega
  · intro s hs
    rcases List.mem_append.1 hs with h1 | h1
    · exact h.ts s h1
    · rw [List.mem_singleton] at h1
      subst h1
      exact ⟨⟨by omega, by omega⟩, a, h.th a ha, hf⟩
theorem Run.done (h : Run H S lo hi Hs Ss T) (hd : ∀ a ∈ Hs, ∀ k, k < S.length → fitB H S lo hi a (k : Int) = true → bt T k = true) : srt Hs = those (TH H S lo hi) H.length ∧ srt Ss = those (TS H S lo hi) S.length := by
  have hall : ∀ a, TH H S lo hi a → a ∈ Hs := by
    intro a ha
    refine ha.least (P := fun a => a ∈ Hs) ?_ ?_
    · intro a ha; rw [h.hs]; exact List.mem_append_left _ ha
    · intro a a' b hP hb hf hp
      have eb : ((b.toNat : Nat) : Int) = b := Int.toNat_of_nonneg hb.1
      have h1 := hd a' hP b.toNat (by omega) (by rw [eb]; exact hf)
      have h2 := (h.mem b.toNat (by omega)).1 h1
      rw [eb] at h2
      rw [h.hs]
      refine List.mem_append_right _ (List.mem_map.2 ⟨b, h2, holeOf_pair hp⟩)
  refine ⟨srt_those h.nodup (fun x => ⟨fun hx => ?_, fun hx => hall x hx.2.2⟩), srt_those h.nd (fun x => ⟨fun hx => ?_, fun hx => ?_⟩)⟩
  · have := h.th x hx
    exact ⟨this.in.1, this.in.2, this⟩
  · have := h.ts x hx
    exact ⟨this.1.1, this.1.2, this⟩
  · obtain ⟨_, a, ha, hf⟩ := hx.2.2
    have eb : ((x.toNat : Nat) : Int) = x := Int.toNat_of_nonneg hx.1
    have h1 := hd a (hall a ha) x.toNat (by omega) (by rw [eb]; exact hf)
    have h2 := (h.mem x.toNat (by omega)).1 h1
    rwa [eb] at h2
end
end Go.Proofs.Ytmoobfbjehgdnaa
