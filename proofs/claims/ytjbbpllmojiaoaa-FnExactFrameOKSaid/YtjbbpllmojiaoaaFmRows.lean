/-
  What the laws ask of frames: how great they are, that one is made of another, that two are the same.
-/
import Derived.Test.YtjbbpllmojiaoaaSpRows
import Derived.Test.YtjbbpllmojiaoaaItL
import Derived.Test.YtjbbpllmojiaoaaVb
import Derived.Test.YtjbbpllmojiaoaaFm
namespace Go.Proofs.Ytjbbpllmojiaoaa
open Go.ChangeShapes Go.WideShapes Go.ChangeAt Go.RowKit
set_option linter.unusedVariables false
set_option linter.unusedSimpArgs false

theorem fm_sz_in (N : Int) (us ul : Option Addr) (ns cs nl cl : Nat) (c : Int) (w : World) (hc : c ≤ 1048576) (hn : (ns : Int) + (nl : Int) ≤ c) :
    Calls Try.prog 18 #[.agg #[.int .i64 N, .slice us ns cs, .slice ul nl cl], .int .i64 c] w fun e w' => e = .returned (.int .i64 (c - (ns : Int) - (nl : Int))) ∧ Below w.heap.size w w' := by
  have t : decide (c - (ns : Int) < 0) = false := decide_eq_false (by omega)
  have t2 : decide (c - (ns : Int) - (nl : Int) < 0) = false := decide_eq_false (by omega)
  have H1 := hide (fun X => sp_sz_in us ns cs c X hc (by omega))
  have H2 := hide (fun X => it_sz_in ul nl cl (c - (ns : Int)) X (by omega) (by omega))
  clear hc hn
  go_enter Try.func18, Try.ntmps18
  go_wp2_with fail
  refine (unhide H1 _).mono ?_
  rintro e w' ⟨rfl, rfl⟩
  go_wp2_with fail
  refine (unhide H2 _).mono ?_
  rintro e w' ⟨rfl, rfl⟩
  go_wp2_with fail
  go_ret
  exact ⟨rfl, ba (Below.refl _ _) _⟩
theorem fm_sz_out (N : Int) (us ul : Option Addr) (ns cs nl cl : Nat) (c : Int) (w : World) (hc0 : 0 ≤ c) (hc : c ≤ 1048576) (hn : c < (ns : Int) + (nl : Int)) (hm : ns ≤ 9223372036854775807) (hm2 : nl ≤ 9223372036854775807) :
    Calls Try.prog 18 #[.agg #[.int .i64 N, .slice us ns cs, .slice ul nl cl], .int .i64 c] w fun e w' => e = .returned (.int .i64 (-1)) ∧ Below w.heap.size w w' := by
  by_cases h : (ns : Int) ≤ c
  · have t : decide (c - (ns : Int) < 0) = false := decide_eq_false (by omega)
    have H1 := hide (fun X => sp_sz_in us ns cs c X hc h)
    have H2 := hide (fun X => it_sz_out ul nl cl (c - (ns : Int)) X (by omega) (by omega) (by omega) hm2)
    clear hc hn
    go_enter Try.func18, Try.ntmps18
    go_wp2_with fail
    refine (unhide H1 _).mono ?_
    rintro e w' ⟨rfl, rfl⟩
    go_wp2_with fail
    refine (unhide H2 _).mono ?_
    rintro e w' ⟨rfl, rfl⟩
    go_wp2_with fail
    go_ret
    exact ⟨rfl, ba (Below.refl _ _) _⟩
  · have H1 := hide (fun X => sp_sz_out us ns cs c X (by omega) hc (by omega) hm)
    clear hc hn
    go_enter Try.func18, Try.ntmps18
    go_wp2_with fail
    refine (unhide H1 _).mono ?_
    rintro e w' ⟨rfl, rfl⟩
    go_wp2_with fail
    go_ret
    exact ⟨rfl, ba (Below.refl _ _) _⟩
theorem Sps.hu {w : World} {u : Option Addr} {p po n : Nat} {S : List Spg} (h : Sps w u p po S) (hl : S.length = n) : n ≠ 0 → u = some ⟨p, po, none⟩ ∧ p < w.heap.size ∧ IntsAt w p po (flat3 S) := fun hn => h (by intro e; subst e; exact hn hl.symm)
theorem iblk.sps {w : World} {g t : Nat} {S : List Spg} (h : iblk w g t (flat3 S)) : Sps w (some ⟨g, 0, none⟩) g 0 S := fun _ => ⟨rfl, h.lt, h.ints⟩
set_option maxHeartbeats 1000000 in
theorem fm_same (N : Int) (us vs ul vl : Option Addr) (p po q qo p' po' q' qo' ns cs cs' nl cl cl' : Nat) (S : List Spg) (L : List Int) (w : World) (hs : S.length = ns) (hns : ns ≤ 1048576) (hl : L.length = nl) (hnl : nl ≤ 1048576)
    (hu : Sps w us p po S) (hv : Sps w vs q qo S) (hu' : Its w ul p' po' L) (hv' : Its w vl q' qo' L) :
    Calls Try.prog 22 #[.agg #[.int .i64 N, .slice us ns cs, .slice ul nl cl], .agg #[.int .i64 N, .slice vs ns cs', .slice vl nl cl']] w fun e w' => e = .returned (.bool true) ∧ Below w.heap.size w w' := by
  have HS := hide (fun X (hX : Below w.heap.size w X) => sp_same us vs p po q qo ns cs cs' (flat3 S) X (by rw [flat3_len, hs]) (by omega) ((hu.bel hX).hu hs) ((hv.bel hX).hu hs))
  have HS' := hide (fun X (hX : Below w.heap.size w X) => it_same ul vl p' po' q' qo' nl cl cl' L X hl hnl (hu'.bel hX) (hv'.bel hX))
  have HB := hide (ba (ba (Below.refl w.heap.size w) (.cells #[.int .i64 N, .slice us ns cs, .slice ul nl cl] 26)) (.cells #[.int .i64 N, .slice vs ns cs', .slice vl nl cl'] 26))
  have HV := hide (vb_new1 w 26 [.int .i64 N, .slice us ns cs, .slice ul nl cl] (.cells #[.int .i64 N, .slice vs ns cs', .slice vl nl cl'] 26))
  have HV' := hide (vb_new2 w 26 [.int .i64 N, .slice vs ns cs', .slice vl nl cl'] (.cells #[.int .i64 N, .slice us ns cs, .slice ul nl cl] 26))
  have ww : (N != N) = false := by simp
  clear hl hu hv hs hu' hv'
  go_enter Try.func22, Try.ntmps22
  go_wp2_with fail
  refine (unhide HS _ (unhide HB)).mono ?_
  rintro e w' ⟨rfl, hb⟩
  have HB2 := hide (bc (unhide HB) hb)
  have c2 := ((unhide HV).bel hb).cell (m := 2) rfl
  have d2 := ((unhide HV').bel hb).cell (m := 2) rfl
  clear hb
  go_wp2_with fail
  refine (unhide HS' _ (unhide HB2)).mono ?_
  rintro e w' ⟨rfl, hb⟩
  have HB3 := hide (bc (unhide HB2) hb)
  clear hb
  go_wp2_with fail
  go_ret
  exact ⟨rfl, unhide HB3⟩
/-- a frame that was made: its springs and loads lie in blocks of their own -/
def Fmd (w : World) (g g' ns nl : Nat) (S : List Spg) (L : List Int) : Prop := iblk w g 37 (flat3 S) ∧ iblk w g' 3 L ∧ g ≠ g'
theorem Fmd.bel {w w' : World} {g g' ns nl : Nat} {S : List Spg} {L : List Int} (h : Fmd w g g' ns nl S L) (hb : Below w.heap.size w w') : Fmd w' g g' ns nl S L := ⟨h.1.bel hb, h.2.1.bel hb, h.2.2⟩
set_option maxHeartbeats 2000000 in
theorem fm_to (N : Int) (us ul : Option Addr) (p po p' po' ns cs nl cl : Nat) (S : List Spg) (L : List Int) (w : World) (hs : S.length = ns) (hns : ns ≤ 1048576) (hl : L.length = nl) (hnl : nl ≤ 1048576) (hu : Sps w us p po S) (hu' : Its w ul p' po' L) :
    Calls Try.prog 20 #[.agg #[.int .i64 N, .slice us ns cs, .slice ul nl cl]] w fun e w' => (∃ g g', e = .returned (.agg #[.int .i64 N, .slice (some ⟨g, 0, none⟩) ns ns, .slice (some ⟨g', 0, none⟩) nl nl]) ∧ w.heap.size ≤ g ∧ w.heap.size ≤ g' ∧ Fmd w' g g' ns nl S L) ∧ Below w.heap.size w w' := by
  have HT := hide (fun X (hX : Below w.heap.size w X) => sp_to us p po ns cs (flat3 S) X (by rw [flat3_len, hs]) (by omega) ((hu.bel hX).hu hs))
  have HT' := hide (fun X (hX : Below w.heap.size w X) => it_to ul p' po' nl cl L X hl hnl (hu'.bel hX))
  clear hl hu hs hu'
  go_enter Try.func20, Try.ntmps20
  go_wp2_with fail
  refine (unhide HT _ ?_).mono ?_
  · repeat (first | exact Below.refl _ _ | refine Below.setCell ?_ (by simp) _ | refine ba ?_ _)
  rintro e w1 ⟨⟨g, rfl, hg, hk⟩, hb⟩
  have v1 : vb w1 (w.heap.size + 1 + 1) 26 [.int .i64 N, .slice none 0 0, .slice none 0 0] := (vb_new ((w.alloc (.cells #[.int .i64 N, .slice us ns cs, .slice ul nl cl] 49)).alloc (.cells #[.int .i64 0, .slice none 0 0, .slice none 0 0] 26)) 26 [.int .i64 N, .slice none 0 0, .slice none 0 0] (w.heap.size + 1 + 1) (by simp)).bel hb
  have v2 : vb w1 (w.heap.size + 1) 26 [.int .i64 0, .slice none 0 0, .slice none 0 0] := ((vb_new (w.alloc (.cells #[.int .i64 N, .slice us ns cs, .slice ul nl cl] 49)) 26 [.int .i64 0, .slice none 0 0, .slice none 0 0] (w.heap.size + 1) (by simp)).bel (ba (Below.refl _ _) _)).bel hb
  have v0 : vb w1 w.heap.size 49 [.int .i64 N, .slice us ns cs, .slice ul nl cl] := (((vb_new w 49 [.int .i64 N, .slice us ns cs, .slice ul nl cl] w.heap.size rfl).bel (ba (Below.refl _ _) _)).bel (ba (Below.refl _ _) _)).bel hb
  have HB : Hid (Below w.heap.size w w1) := hide (bc (ba (ba (ba (Below.refl _ _) _) _) _) hb)
  have hg3 : w.heap.size + 3 ≤ g := by simpa using hg
  have HG : Hid (w.heap.size + 3 ≤ g) := hide hg3
  have u1 := v1.set 1 (.slice (some ⟨g, 0, none⟩) ns ns)
  have u2 := v2.ne (g' := w.heap.size + 1 + 1) (o := 1) (x := .slice (some ⟨g, 0, none⟩) ns ns) (by omega)
  have u0 := v0.ne (g' := w.heap.size + 1 + 1) (o := 1) (x := .slice (some ⟨g, 0, none⟩) ns ns) (by omega)
  have uk := hk.ne (g' := w.heap.size + 1 + 1) (o := 1) (x := .slice (some ⟨g, 0, none⟩) ns ns) (by omega)
  have HS1 : Hid (Below w.heap.size w (w1.setCell ⟨w.heap.size + 1 + 1, 1, none⟩ (.slice (some ⟨g, 0, none⟩) ns ns))) := hide (Below.setCell (unhide HB) (by show w.heap.size ≤ w.heap.size + 1 + 1; omega) _)
  have HK := hide uk
  have HV0 := hide u0
  have HV1 := hide u1
  have HV2 := hide u2
  have c0 := v0.cell (m := 2) rfl
  have c1 := v0.cell (m := 0) rfl
  have c3 := v0.cell (m := 1) rfl
  have b0 := v1.cell (m := 0) rfl
  have b1 := v1.cell (m := 1) rfl
  have b2 := v1.cell (m := 2) rfl
  have f1 := v1.frozen
  clear hb hg hg3 hk v1 v2 v0 u0 u1 u2 uk
  go_wp2_with fail
  refine (unhide HT' _ (unhide HS1)).mono ?_
  rintro e w2 ⟨⟨g', rfl, hg', hk'⟩, hb⟩
  have v1 := (unhide HV1).bel hb
  have v2 := (unhide HV2).bel hb
  simp only [List.set_cons_succ, List.set_cons_zero] at v1
  have HB2 : Hid (Below w.heap.size w w2) := hide (bc (unhide HS1) hb)
  have hgg : g < g' := by
    have := (unhide HK).lt
    omega
  have HG' := hide hgg
  have HK2 := hide ((unhide HK).bel hb)
  have HK3 := hide hk'
  have c0 := v1.cell (m := 0) rfl
  have c1 := v1.cell (m := 1) rfl
  have c2 := v1.cell (m := 2) rfl
  have f1 := v1.frozen
  have d0 := v2.cell (m := 0) rfl
  have d1 := v2.cell (m := 1) rfl
  have d2 := v2.cell (m := 2) rfl
  have f2 := v2.frozen
  clear hb hg' hgg hk' v1 v2 b0 b1 b2 c3
  go_wp2_with fail
  refine bodyPost_ret (v := .agg #[.int .i64 N, .slice (some ⟨g, 0, none⟩) ns ns, .slice (some ⟨g', 0, none⟩) nl nl]) (by simp [results, Try.results20, go_sem, c0, c1, c2, d0, d1, d2]) rfl ?_
  have hg := unhide HG
  have hg' := unhide HG'
  refine ⟨⟨g, g', rfl, by omega, by omega, ?_, ?_, by omega⟩, ?_⟩
  · exact (((iblk.ne (unhide HK2) (by omega)).ne (by omega)).ne (by omega)).ne (by omega)
  · exact (((iblk.ne (unhide HK3) (by omega)).ne (by omega)).ne (by omega)).ne (by omega)
  · exact Below.setCell (Below.setCell (Below.setCell (Below.setCell (unhide HB2) (by show w.heap.size ≤ w.heap.size + 1 + 1; omega) _) (Nat.le_add_right _ _) _) (Nat.le_add_right _ _) _) (Nat.le_add_right _ _) _
end Go.Proofs.Ytjbbpllmojiaoaa
