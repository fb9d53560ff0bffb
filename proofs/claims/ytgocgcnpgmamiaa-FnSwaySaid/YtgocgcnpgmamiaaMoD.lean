/-
  Right masses, drawn.
-/
import Derived.Test.YtgocgcnpgmamiaaMsD
namespace Go.Proofs.Ytgocgcnpgmamiaa
open Go.ChangeShapes Go.WideShapes Go.ChangeAt Go.RowKit
set_option linter.unusedVariables false
set_option linter.unusedSimpArgs false
attribute [local go_sem] run_store_flt run_store_cpx

theorem FRow.flk {fk : FloatKind} {w : World} {B t k n : Nat} {u : Option Addr} {cap : Nat} {L : List Nat} (h : FRow fk w B t k (.slice u n cap) n L) : ∃ p, Fls fk w u p 0 L := by
  by_cases hn : n = 0
  · have hl := h.len
    rw [hn, Nat.zero_mul] at hl
    exact ⟨0, fun h0 => absurd (List.eq_nil_of_length_eq_zero hl) h0⟩
  · obtain ⟨g2, c2, e, _, h4, h5, _⟩ := h.full hn
    cases e
    exact ⟨g2, fun _ => ⟨rfl, h4, h5⟩⟩
set_option maxHeartbeats 2000000 in
set_option maxRecDepth 10000 in
theorem massesD (a : Option Addr) (len cap : Nat) (zs : List Int) (w : World) (hc : Code w.heap.size w a len cap zs) (hl : len ≤ 9223372036854775807) :
    Calls Try.prog 9 #[.slice a len cap] w fun e w' => (∃ v n R, e = .returned v ∧ FRow .f64 w' w.heap.size 30 3 v n R ∧ swOk n R 4607182418800017408 = true) ∧ Below w.heap.size w w' := by
  have HSO := hide (source_any a len cap zs w hc hl)
  clear hc
  go_enter Try.func9, Try.ntmps9
  go_wp2_with fail
  refine (unhide HSO).mono ?_
  rintro e W1 ⟨rfl, hb, hso⟩
  have HB1 := hide hb
  have HS1 := hide hso
  clear hb hso HSO
  go_wp2_with fail
  go_loopw [4] (fun s W => ∃ i : Nat, s = .int .i64 (i : Int) ∧ i ≤ 3 ∧ So w.heap.size w.heap.size (1000 * i) W ∧ Below w.heap.size w W) (fun s _ => 3 - (intOf s).toNat)
  case atStart => exact ⟨0, rfl, by omega, by simpa using unhide HS1, unhide HB1⟩
  case round =>
    obtain ⟨i, rfl, hi, hso, hw⟩ := hrel
    have HS := hide hso
    have HW := hide hw
    have hsz := hw.size
    clear hso hw HS1 HB1
    have i0 : (0 : Int) ≤ (i : Int) := Int.natCast_nonneg _
    by_cases h : i < 3
    · have iz : decide ((i : Int) < 3) = true := decide_eq_true (by omega)
      have i1 : (i : Int) < 3 := by omega
      go_wp2_with fail
      refine (masD (unhide HS) (by omega) (by omega)).mono ?_
      rintro e W2 ⟨⟨v, n, R, rfl, hn, hr⟩, hso, hmv⟩
      have hB2 : Below w.heap.size w W2 := Mv.bel (unhide HW) hmv (Nat.le_refl _) hsz
      have hr2 : FRow .f64 W2 w.heap.size 30 3 v n R := hr.mono hsz
      obtain ⟨u, cp, rfl, _⟩ := hr2.form
      obtain ⟨p, hp⟩ := hr2.flk
      have HM := hide (masM u p 0 n cp R 4607182418800017408 W2 hr2.len (by omega) hp)
      have HR := hide hr2
      have HB := hide hB2
      have HS2 := hide hso
      clear hr hr2 hB2 hp hso hmv HS HW
      go_wp2_with fail
      refine (unhide HM).mono ?_
      rintro e W3 ⟨rfl, hb⟩
      have HR3 := hide ((unhide HR).below hb)
      have HB3 := hide (bc (unhide HB) hb)
      have HS3 := hide ((unhide HS2).bel hb)
      clear hb HR HB HS2 HM
      cases ho : swOk n R 4607182418800017408 with
      | true =>
        go_wp2_with fail
        refine bodyPost_ret (v := .slice u n cp) (by simp [results, Try.results9, go_sem]) rfl ⟨⟨_, n, R, rfl, unhide HR3, ho⟩, unhide HB3⟩
      | false =>
        clear ho
        go_wp2_with fail
        go_roundw
        case rel => exact ⟨i + 1, by simp, by omega, (unhide HS3).up (by omega), unhide HB3⟩
        case measure => simp only [intOf]; omega
    · have iz : decide ((i : Int) < 3) = false := decide_eq_false (by omega)
      have i1 : ¬ (i : Int) < 3 := by omega
      go_wp2_with fail
      refine bodyPost_ret (v := .slice (some ⟨wr.heap.size, 0, none⟩) 1 1) (by simp [results, Try.results9, go_sem]) rfl ⟨⟨_, rfl, 1, [4607182418800017408, 4607182418800017408, 4616189618054758400], frow_new wr 30 w.heap.size 3 1 1 [4607182418800017408, 4607182418800017408, 4616189618054758400] hsz _ rfl rfl (Nat.le_refl _) (by decide) rfl, by decide⟩, ba (unhide HW) _⟩
end Go.Proofs.Ytgocgcnpgmamiaa
