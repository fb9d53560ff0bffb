/- What the small functions of names answer: letters and digits. -/
import Derived.Test.YtkiplmabjeadgaaGreatFdMQ
import Derived.Deep.LoopGhost
import Derived.Test.YtkiplmabjeadgaaGreatBaseQ
import Derived.WalkKit
import Derived.ProofKit
import Derived.OpenShut
import Derived.Test.YtkiplmabjeadgaaGreatFoMathQ
namespace Go.Proofs.YtkiplmabjeadgaaGreat
set_option maxRecDepth 100000
set_option maxHeartbeats 16000000
open Go.ChangeShapes Go.WideShapes Go.ChangeAt Go.RowKit
set_option linter.unusedVariables false
set_option linter.unusedSimpArgs false
def InnX (G : Nat) (w : World) (v : Value) (l : List Nat) : Prop := ∃ b q c, v = .slice (some ⟨b, q, none⟩) l.length c ∧ b < w.heap.size ∧ b ≠ G ∧ IntsAt w b q (nats l)
theorem InnX.inn {G : Nat} {w : World} {v : Value} {l : List Nat} (h : InnX G w v l) : Inn w v l := by
 obtain ⟨b, q, c, rfl, hb, _, hI⟩ := h;exact ⟨_, c, rfl, fun _ => ⟨b, q, rfl, hb, hI⟩⟩
theorem InnX.bel {G : Nat} {w w' : World} {v : Value} {l : List Nat} (h : InnX G w v l) (hb : Below w.heap.size w w') : InnX G w' v l := by
 obtain ⟨b, q, c, rfl, h1, h2, hI⟩ := h;exact ⟨b, q, c, rfl, Nat.lt_of_lt_of_le h1 hb.size, h2, hI.below hb h1⟩
def OneRow (G : Nat) (w : World) (v : Value) (l : List Nat) : Prop := ∃ g o c v0, v = .slice (some ⟨g, o, none⟩) 1 c ∧ g < w.heap.size ∧ g ≠ G ∧ w.cell? ⟨g, o, none⟩ = some v0 ∧ InnX G w v0 l
theorem OneRow.bel {G : Nat} {w w' : World} {v : Value} {l : List Nat} (h : OneRow G w v l) (hb : Below w.heap.size w w') : OneRow G w' v l := by
 obtain ⟨g, o, c, v0, rfl, hg, hG, hc, hi⟩ := h;exact ⟨g, o, c, v0, rfl, Nat.lt_of_lt_of_le hg hb.size, hG, (hb.cell (p := ⟨g, o, none⟩) hg).trans hc, hi.bel hb⟩
theorem dn_bel (W : World) (B k : Nat) : Below B W (W.drewN k) := ⟨rfl, rfl, rfl, Nat.le_refl _, fun _ _ => rfl⟩
theorem take_has {l : List Nat} {j y z : Nat} (h : l[j]? = some y) : (l.take (j + 1)).contains z = ((l.take j).contains z || (y == z)) := by
 rw [List.take_add_one, h];simp only [List.contains_eq_mem, Option.toList_some, List.mem_append, List.mem_singleton];rw [Bool.eq_iff_iff];simp;constructor
 ·rintro (h | h)
  ·exact .inl h
  ·exact .inr h.symm
 ·rintro (h | h)
  ·exact .inl h
  ·exact .inr h.symm
theorem info45 : (Tryz.prog.info? 94).map (fun i => (i.zero, i.size, i.bytes)) = some (some (.slice none 0 0), 1, 24) := by kernel_rfl
theorem circleM_any (u : Option Addr) (n cu i0 : Nat) (nm : List (List Nat)) (w : World) (hl : nm.length = n) (hn : n ≤ 4096) (hi0 : i0 < n) (hu : NmAt w u nm) (ho : Oneful nm) :
  Calls Tryz.prog 108 #[.slice u n cu, .int .i64 (i0 : Int)] w fun e w' => (∃ v c, e = .returned v ∧ Inn w' v c ∧ Cyc (sc nm) i0 c) ∧ Below w.heap.size w w' := by
 obtain ⟨iI, hi, hz0, hz1, hz2⟩ := info_parts info3;obtain ⟨iS, hj, hy0, hy1, hy2⟩ := info_parts info45;have hmk := fun W => make_vals (P := Tryz.prog) 95 4 1 n (.bool false) rfl Tryz.underlying95 info4 (by omega) (by omega) W
 have HU := hide hu;have HL := hide hl;have HO := hide ho;have HI := hide hi0;clear hu hl ho;rw [← bl_nil] at hmk;go_enter Tryz.func108, Tryz.ntmps108;go_wp2_with fail
 have hr0 : OneRow (w.heap.size + 1 + 1) (((w.alloc (.cells #[.int .i64 (i0 : Int)] 3)).alloc (.cells #[.slice (some ⟨w.heap.size, 0, none⟩) 1 1] 94)).alloc (.cells (bl n []).toArray 4)) (.slice (some ⟨w.heap.size + 1, 0, none⟩) 1 1) (path (sc nm) 1 i0) := by
  refine ⟨w.heap.size + 1, 0, 1, .slice (some ⟨w.heap.size, 0, none⟩) 1 1, rfl, by simp, by omega, by simp [go_sem], w.heap.size, 0, 1, rfl, by simp; omega, by omega, ?_⟩;intro j x hj
  rcases j with _ | j
  ·simp [nats, path, it] at hj
   subst hj;simp [go_sem]
  ·simp [nats, path] at hj
 have HR0 := hide hr0;clear hr0;have HV0 := hide (vb_new ((w.alloc (.cells #[.int .i64 (i0 : Int)] 3)).alloc (.cells #[.slice (some ⟨w.heap.size, 0, none⟩) 1 1] 94)) 4 (bl n []) _ rfl);have HB0 := hide (ba (ba (ba (bfl w.heap.size w) (.cells #[.int .i64 (i0 : Int)] 3)) (.cells #[.slice (some ⟨w.heap.size, 0, none⟩) 1 1] 94)) (.cells (bl n []).toArray 4));simp only [World.size_alloc] at HV0;clear hmk
 go_loopg [5] (n + 2) (fun k r W => Below w.heap.size w W ∧ ((∃ t x, k = n + 2 - t ∧ Way (sc nm) n i0 t x ∧ OneRow (w.heap.size + 1 + 1) W r (path (sc nm) (t + 1) i0) ∧ vb W (w.heap.size + 1 + 1) 4 (bl n (vis (sc nm) t i0))) ∨ (k = 1 ∧ ∃ ur cr, r = .slice ur 0 cr ∧ Cyc (sc nm) i0 [])))
 case atStart => exact ⟨zu HB0, .inl ⟨0, i0, rfl, Way.start hi0, zu HR0, zu HV0⟩⟩
 case round =>
  obtain ⟨hw, ⟨t, x, hgk, hway, hone, hvb⟩ | ⟨hgk, ur, cr, rfl, hcy⟩⟩ := hrel;rotate_left
  ·have HW := hide hw
   have HC := hide hcy;clear hw hcy HR0 HV0 HB0;go_wp2_with fail;go_ret;refine ⟨⟨_, [], rfl, ⟨_, _, rfl, fun h => absurd rfl h⟩, zu HC⟩, ba (zu HW) _⟩
  obtain ⟨g5, o5, c5, v0, rfl, hg5, hG5, hc5, b0, q0, c0, rfl, hb0, hB0, hI0⟩ := hone;rw [path_len] at hc5;have HW := hide hw;have HWY := hide hway;have HV := hide hvb;have HI0 := hide hI0;have HGK := hide hgk;have htn := hway.le;have hx := hway.xlt;clear hw hway hvb hI0 hgk HR0 HV0 HB0;have L1 : ((t + 1 : Nat) : Int) - 1 = (t : Int) := by omega
  have lz : (0 : Int) ≤ (t : Int) := by omega
  have ly : (t : Int) < ((t + 1 : Nat) : Int) := by omega
  generalize hpl : path (sc nm) (t + 1) i0 = pl at *;have HPL := hide hpl;clear hpl;have HC5 := hide hc5;clear hc5;go_wp2_with fail;rename World => W1
  have HR1 := hide (own_made W1 94 W1.heap.size 1 (Nat.le_refl _) _ rfl)
  go_loopw [7, 8] (fun nx s W => Below w.heap.size w W ∧ ((s = .int .i64 0 ∧ nx = .slice (some ⟨W1.heap.size, 0, none⟩) 0 0 ∧ W = W1.alloc (.cells #[] 94)) ∨ (s = .int .i64 1 ∧
    ((∃ y, sc nm x = some y ∧ y ≠ i0 ∧ y ∉ vis (sc nm) t i0 ∧ OneRow (w.heap.size + 1 + 1) W nx (pl ++ [y]) ∧ vb W (w.heap.size + 1 + 1) 4 (bl n (vis (sc nm) t i0 ++ [y]))) ∨ ((∀ y, sc nm x = some y → y ≠ i0 ∧ y ∈ vis (sc nm) t i0) ∧ ∃ un cn, nx = .slice un 0 cn))))) (fun _ s _ => 2 - (intOf s).toNat)
  case atStart => exact ⟨ba (zu HW) _, .inl ⟨rfl, rfl, rfl⟩⟩
  case round =>
   obtain ⟨hw2, ⟨rfl, rfl, rfl⟩ | ⟨rfl, hfin⟩⟩ := hrel;rotate_left
   ·have HF := hide hfin
    have HW2 := hide hw2;clear hfin hw2;go_wp2_with fail
    rcases zu HF with ⟨y, h1, h2, h3, h4, h5⟩ | ⟨h1, un, cn, rfl⟩
    ·go_roundg (n + 2 - (t + 1))
     case measure =>
      have := ((zu HWY).more h1 (by have := (sc_lt (zu HO) h1).2; rw [zu HL] at this; exact this) h2 h3).le;have := zu HGK;omega
     case rel =>
      refine ⟨zu HW2, .inl ⟨t + 1, y, rfl, (zu HWY).more h1 (by have := (sc_lt (zu HO) h1).2; rw [zu HL] at this; exact this) h2 h3, ?_, ?_⟩⟩
      ·rw [(zu HWY).pathS h1, zu HPL]
       exact h4
      ·rw [(zu HWY).visS h1]
       exact h5
    ·go_roundg 1
     case measure => have := zu HGK; omega
     case rel => exact ⟨zu HW2, .inr ⟨rfl, un, cn, rfl, (zu HWY).stop h1⟩⟩
   have HW2 := hide hw2;have k5 := ka (o := .cells #[] 94) (zu HC5);have HI2 := hide ((zu HI0).below (ba (bfl W1.heap.size W1) (.cells #[] 94)) hb0);have k6 : (W1.alloc (.cells #[] 94)).cell? ⟨b0, q0 + t, none⟩ = some (.int .i64 (x : Int)) := (zu HI2) t _ (nats_at (by rw [← zu HPL]; exact (zu HWY).lastOf));clear hw2;go_wp2_with fail
   go_quiet (fail)
   have HD := hide (dn_bel (W1.alloc (.cells #[] 94)) (W1.alloc (.cells #[] 94)).heap.size nq);have HSD : Hid (((W1.alloc (.cells #[] 94)).drewN nq).heap = (W1.alloc (.cells #[] 94)).heap) := hide rfl;generalize (W1.alloc (.cells #[] 94)).drewN nq = W2 at *;have HC2 := hide (keep1 (zu HD) k5);have HI3 := hide ((zu HI2).below (zu HD) (by simp; omega));have HW3 := hide (bc (zu HW2) (zu HD));have HV2 := hide (((zu HV).bel (ba (bfl _ _) (.cells #[] 94))).bel (zu HD));have HR2 := hide (own_bel (zu HR1) (zu HD));have hsz2 : W1.heap.size < W2.heap.size := by rw [zu HSD]; simp
   have HSZ2 := hide hsz2;clear k5 k6 HD HSD HI2 HW2 hsz2 HR1;obtain ⟨l, hl⟩ := get_some (zu HL) hx;have HLX := hide hl;have hone := zu HO;have hll : l.length ≤ 1 := hone.one l (List.mem_of_getElem? hl)
   have hsc : ∀ z, l.contains z = true ↔ sc nm x = some z := by
    intro z;have hsx : sc nm x = l.head? := by unfold sc; rw [hl]; rfl
    rw [hsx]
    match l, hll with
    | [], _ => simp
    | [a], _ => simp; exact eq_comm
   have HSC := hide hsc;have hlt := hone.lt l (List.mem_of_getElem? hl);rw [zu HL] at hlt;have HLT := hide hlt;clear hl hone hsc hlt;go_wp2_with fail
   go_loopw [7, 10] (fun nx s W => ∃ tt : Nat, s = .int .i64 (tt : Int) ∧ tt ≤ n ∧ Below w.heap.size w W ∧ W1.heap.size < W.heap.size ∧ W.cell? ⟨g5, o5, none⟩ = some (.slice (some ⟨b0, q0, none⟩) (t + 1) c0) ∧ IntsAt W b0 q0 (nats pl) ∧
    ((∃ y, sc nm x = some y ∧ y < tt ∧ y ≠ i0 ∧ y ∉ vis (sc nm) t i0 ∧ OneRow (w.heap.size + 1 + 1) W nx (pl ++ [y]) ∧ vb W (w.heap.size + 1 + 1) 4 (bl n (vis (sc nm) t i0 ++ [y]))) ∨ ((∀ y, sc nm x = some y → y < tt → y ≠ i0 ∧ y ∈ vis (sc nm) t i0) ∧ W.ownsRow W1.heap.size 94 1 nx 0 [] ∧ vb W (w.heap.size + 1 + 1) 4 (bl n (vis (sc nm) t i0))))) (fun _ s _ => n - (intOf s).toNat)
   case atStart => exact ⟨0, rfl, Nat.zero_le _, zu HW3, zu HSZ2, zu HC2, zu HI3, .inr ⟨fun y _ h => by omega, zu HR2, zu HV2⟩⟩
   case round =>
    rename World => W3
    obtain ⟨tt, rfl, htt, hw3, hs3, hc3, hi3, hst⟩ := hrel;have HW4 := hide hw3;have HS4 := hide hs3;have HC4 := hide hc3;have HI4 := hide hi3;have HST := hide hst;clear hw3 hs3 hc3 hi3 hst HC2 HI3 HW3 HV2 HR2 HSZ2
    by_cases h : tt < n
    ·have e1 : (tt : Int) < (n : Int) := by omega
     have e0 : (0 : Int) ≤ (tt : Int) := Int.natCast_nonneg _;have ez : decide ((tt : Int) < (n : Int)) = true := dt e1;have x1 : (x : Int) < (n : Int) := by omega
     have x0 : (0 : Int) ≤ (x : Int) := Int.natCast_nonneg _;obtain ⟨gn, on, rfl, xv, xc, hcx, hin⟩ := ((zu HU).bel (zu HW4)).at (zu HLX);have HIN := hide hin;clear hin;go_wp2_with fail
     go_loopw [11, 12] (fun r k W => ∃ j : Nat, k = .int .i64 (j : Int) ∧ j ≤ l.length ∧ r = .bool ((l.take j).contains tt) ∧ W = W3) (fun _ k _ => l.length - (intOf k).toNat)
     case atStart => exact ⟨0, rfl, Nat.zero_le _, by simp, rfl⟩
     case round =>
      obtain ⟨j, rfl, hj', hr, hww⟩ := hrel;subst hww;subst hr;rename World => W3
      by_cases hjl : j < l.length
      ·have t1 : (j : Int) < (l.length : Int) := by omega
       have t0 : (0 : Int) ≤ (j : Int) := Int.natCast_nonneg _;have tz : decide ((j : Int) < (l.length : Int)) = true := dt t1;have hy : l[j]? = some l[j] := List.getElem?_eq_getElem hjl;obtain ⟨b, qo, rfl, hcell⟩ := zu HIN (by intro e; rw [e] at hjl; simp at hjl);have HAT := hide (take_has (z := tt) hy);generalize l[j] = y at *;have k1 := hcell j y hy;clear hcell hy;generalize hrr : (l.take j).contains tt = rr at *;have HRR := hide hrr;clear hrr
       cases hyt : (y == tt)
       ·have hyi : ((y : Int) == (tt : Int)) = false := by rw [beq_eq_false_iff_ne] at hyt ⊢; omega
        have HYT := hide hyt;clear hyt
        cases rr
        ·go_wp2_with fail
         go_roundw
         case rel => exact ⟨j + 1, by simp, hjl, by rw [zu HAT, zu HYT]; rfl, by first | rfl | trivial⟩
         case measure => simp only [intOf]; omega
        ·go_wp2_with fail
         go_roundw
         case rel => exact ⟨j + 1, by simp, hjl, by rw [zu HAT]; rfl, by first | rfl | trivial⟩
         case measure => simp only [intOf]; omega
       ·have hyi : ((y : Int) == (tt : Int)) = true := by rw [beq_iff_eq] at hyt ⊢; omega
        have HYT := hide hyt;clear hyt
        cases rr
        ·go_wp2_with fail
         go_roundw
         case rel => exact ⟨j + 1, by simp, hjl, by rw [zu HAT, zu HYT]; rfl, by first | rfl | trivial⟩
         case measure => simp only [intOf]; omega
        ·go_wp2_with fail
         go_roundw
         case rel => exact ⟨j + 1, by simp, hjl, by rw [zu HAT]; rfl, by first | rfl | trivial⟩
         case measure => simp only [intOf]; omega
      ·have t1 : ¬ (j : Int) < (l.length : Int) := by omega
       have tz : decide ((j : Int) < (l.length : Int)) = false := df t1;have hjl' : l.take j = l := List.take_of_length_le (by omega);rw [hjl'];clear hjl';have k5 := zu HC4
       cases hld : l.contains tt
       ·have hno : sc nm x ≠ some tt := by
         intro e;rw [(zu HSC tt).2 e] at hld
         cases hld
        have HNO := hide hno;clear hno hld;go_wp2_with fail;go_roundw
        case rel =>
         refine ⟨tt + 1, by simp, h, zu HW4, zu HS4, zu HC4, zu HI4, ?_⟩
         rcases zu HST with ⟨y, h1, h2, h3, h4, h5, h6⟩ | ⟨h1, h2, h3⟩
         ·exact .inl ⟨y, h1, by omega, h3, h4, h5, h6⟩
         ·refine .inr ⟨fun y hy hlt => h1 y hy ?_, h2, h3⟩
          have : y ≠ tt := by intro e; subst e; exact zu HNO hy
          omega
        case measure => simp only [intOf]; omega
       ·have hsx : sc nm x = some tt := (zu HSC tt).1 hld
        have HSX := hide hsx;clear hld
        obtain ⟨h1, hown, hvb⟩ : (∀ y, sc nm x = some y → y < tt → y ≠ i0 ∧ y ∈ vis (sc nm) t i0) ∧ _ ∧ _ := by
         rcases zu HST with ⟨y, h1, h2, _⟩ | h
         ·rw [hsx] at h1
          cases h1
          omega
         ·exact h
        clear h1 hsx
        by_cases hti : tt = i0
        ·have htb : ((tt : Int) == (i0 : Int)) = true := by rw [beq_iff_eq]; omega
         have HTI := hide hti;clear hti hown hvb;go_wp2_with fail;go_ret;refine ⟨⟨_, rfl, pl, ?_, ?_⟩, zu HW4⟩
         ·have hpl : pl.length = t + 1 := by rw [← zu HPL, path_len]
          refine ⟨_, c0, by rw [hpl]; rfl, fun _ => ⟨b0, q0, rfl, ?_, zu HI4⟩⟩;have := zu HS4;omega
         ·rw [← zu HPL]
          exact (zu HWY).back (by rw [zu HSX, zu HTI])
        ·have htb : ((tt : Int) == (i0 : Int)) = false := by rw [beq_eq_false_iff_ne]; omega
         have hcs := hvb.cell (bl_at h);have fz : ∀ z, W3.frozen? ⟨w.heap.size + 1 + 1, z, none⟩ = false := hvb.frozen;have HVB := hide hvb;have HOW := hide hown;have HTI := hide hti;clear hti hown hvb
         cases hvs : (vis (sc nm) t i0).contains tt
         ·have HNV : Hid (tt ∉ vis (sc nm) t i0) := hide (by intro e; rw [List.contains_eq_mem, dt e] at hvs; cases hvs)
          rw [hvs] at hcs;clear hvs;have hpl : pl.length = t + 1 := by rw [← zu HPL, path_len]
          have HPN := hide hpl;clear hpl;have HGL := hide (zu HV).lt;have HV5 := hide ((zu HVB).set tt (.bool true));rw [bl_set h] at HV5;have HB5 := hide (Below.setCell (zu HW4) (p := ⟨w.heap.size + 1 + 1, tt, none⟩) (by simp; omega) (.bool true));have HC5' : Hid ((W3.setCell ⟨w.heap.size + 1 + 1, tt, none⟩ (.bool true)).cell? ⟨g5, o5, none⟩ = some (.slice (some ⟨b0, q0, none⟩) (t + 1) c0)) := hide ((World.cell?_of_block (w := W3) (a := ⟨g5, o5, none⟩) (Below.heap_setCell _ _ _ _ hG5)).trans (zu HC4))
          have HI5 : Hid (IntsAt (W3.setCell ⟨w.heap.size + 1 + 1, tt, none⟩ (.bool true)) b0 q0 (nats pl)) := hide (fun j x hj => (World.cell?_of_block (w := W3) (a := ⟨b0, q0 + j, none⟩) (Below.heap_setCell _ _ _ _ hB0)).trans (zu HI4 j x hj));have HS5 : Hid ((W3.setCell ⟨w.heap.size + 1 + 1, tt, none⟩ (.bool true)).heap.size = W3.heap.size) := hide (by simp [World.setCell])
          have HO5 := hide (own_kept (zu HOW) (w' := W3.setCell ⟨w.heap.size + 1 + 1, tt, none⟩ (.bool true)) (fun g hg => by have h1 := (own_ge (zu HOW) g hg).1; have h2 := zu HGL; have h3 : g ≠ w.heap.size + 1 + 1 := (by omega); exact Below.heap_setCell _ _ _ _ h3));have HTT := hide (Int.natCast_nonneg tt);have k7 := ka (o := .cells #[] 3) (zu HC5');clear HVB HOW HC4 HI4 HST
          go_wp2_with (at_builtin; refine zu ?_)
          refine hide ?_;generalize W3.setCell ⟨w.heap.size + 1 + 1, tt, none⟩ (.bool true) = W4 at *;clear k7;have hs4 : W1.heap.size < W4.heap.size := by rw [zu HS5]; exact zu HS4
          have HA1 := hide (own_made W4 3 W4.heap.size 1 (Nat.le_refl _) W3.heap.size (zu HS5).symm);have HI6 := hide ((zu HI5).below (B := W4.heap.size) (ba (bfl W4.heap.size W4) (.cells #[] 3)) (by omega));have hG1 : Below W4.heap.size W4 (W4.alloc (.cells #[] 3)) := ba (bfl _ _) _
          refine wpList_append_own _ rfl _ _ 94 rfl W4.heap.size 3 iI _ 1 8 Tryz.underlying94 hi hz0 hz1 hz2 rfl (by decide) (.slice (some ⟨W3.heap.size, 0, none⟩) 0 0) 0 [] rfl (zu HA1) ⟨b0, q0, none⟩ (t + 1) c0 ((nats pl).map (Value.int .i64)) rfl (by rw [List.length_map, nats_len, zu HPN, Nat.mul_one]) (by
           intro j u hj;rw [List.getElem?_map] at hj;obtain ⟨z, hz, rfl⟩ := Option.map_eq_some_iff.1 hj;rw [add_none]
           exact zu HI6 j z hz) ints_one (by unfold maxLen; omega) (by omega) (by simp) ?_
          intro v1 w1 hown1 hgrow1 _;have hbe1 : Below W4.heap.size W4 w1 := hG1.grown hgrow1 (by simp) (fun j hj => by simp only [Value.ownBlock, Option.some.injEq] at hj; have := zu HS5; omega);have HBE1 := hide hbe1;have HOW1 := hide hown1;clear hown1 hgrow1 hbe1 hG1
          go_wp2_with (at_builtin; refine zu ?_)
          refine hide ?_;have hs1 := (zu HBE1).size;refine wpList_append_own _ rfl _ _ 94 rfl W4.heap.size 3 iI _ 1 8 Tryz.underlying94 hi hz0 hz1 hz2 rfl (by decide) v1 (0 + (t + 1)) ([] ++ (nats pl).map (Value.int .i64)) rfl ((zu HOW1).alloc _) _ 1 1 ([(tt : Int)].map (Value.int .i64)) rfl rfl (by first | exact news_cells _ _ rfl | exact news_cells _ _ (by simp)) ints_one (by unfold maxLen; omega) (by omega) (Nat.le_trans hs1 (by simp)) ?_;intro v2 w2 hown2 hgrow2 _
          have hbe2 : Below W4.heap.size W4 w2 := ((zu HBE1).alloc hs1 _).grown hgrow2 (Nat.le_trans hs1 (by simp)) (fun j hj => (own_ge (zu HOW1) j hj).1);have HBE2 := hide hbe2;have HOW2 := hide hown2;clear hown2 hgrow2 hbe2;obtain ⟨u2, cap2, rfl, _, _, hf2⟩ := own_form (zu HOW2);obtain ⟨g2, rfl, hg2, hg2', hcell2⟩ := hf2 (by omega)
          have hcells2 : IntsAt w2 g2 0 (nats (pl ++ [tt])) := by
           intro j z hj;rw [Nat.zero_add];apply hcell2;have e : ([] ++ (nats pl).map (Value.int .i64) ++ [(tt : Int)].map (Value.int .i64)) = (nats (pl ++ [tt])).map (Value.int .i64) := by simp [nats]
           rw [e, List.getElem?_map, hj];rfl
          have HCE2 := hide hcells2;clear hcell2 hf2 hcells2;have hlen2 : 0 + (t + 1) + 1 = (pl ++ [tt]).length := by simp [zu HPN]
          have HLN2 := hide hlen2;clear hlen2;have HO6 := hide (own_kept (zu HO5) (w' := w2) (fun g hg => (zu HBE2).block g (own_ge (zu HO5) g hg).2));have hs2 := (zu HBE2).size
          go_wp2_with (at_builtin; refine zu ?_)
          refine hide ?_;refine wpList_append_own _ rfl _ _ 122 rfl W1.heap.size 94 iS _ 1 24 Tryz.underlying122 hj hy0 hy1 hy2 rfl (by decide) _ 0 [] rfl ((zu HO6).alloc _) _ 1 1 ([.slice (some ⟨g2, 0, none⟩) (t + 1 + 1) cap2]) rfl rfl (by first | exact news_cells _ _ rfl | exact news_cells [.slice (some ⟨g2, 0, none⟩) (t + 1 + 1) cap2] _ rfl | trace_state) (by intro u hu; simp only [List.mem_singleton] at hu; subst hu; rfl) (by unfold maxLen; omega) (by omega) (Nat.le_trans (Nat.le_of_lt hs4) (Nat.le_trans hs2 (by simp))) ?_;intro v3 w3 hown3 hgrow3 _
          have hal : Below w2.heap.size w2 (w2.alloc (.cells #[.slice (some ⟨g2, 0, none⟩) (t + 1 + 1) cap2] 94)) := ba (bfl _ _) _;have hbe3 : Below W1.heap.size W4 w3 := (((zu HBE2).mono (Nat.le_of_lt hs4)).trans (hal.mono (by omega))).grown hgrow3 (Nat.le_trans (by omega) (Nat.le_trans hs2 hal.size)) (fun j hj => (own_ge (zu HO6) j hj).1)
          have hg23 : w3.heap[g2]? = w2.heap[g2]? := (hgrow3.block g2 (Nat.lt_of_lt_of_le hg2' hal.size) (by
           intro e;have h1 := (own_ge (zu HO5) g2 e.symm).2
           omega)).trans (hal.block g2 hg2')
          have HBE3 := hide hbe3;have HOW3 := hide hown3;have hs3 : w2.heap.size ≤ w3.heap.size := Nat.le_trans hal.size hgrow3.size;have HG23 := hide hg23;clear hown3 hgrow3 hbe3 hg23 hal;obtain ⟨u3, cap3, rfl, _, _, hf3⟩ := own_form (zu HOW3);obtain ⟨g3, rfl, hg3, hg3', hcell3⟩ := hf3 (by omega);have HCL3 := hide (hcell3 0 _ rfl);clear hcell3 hf3;go_wp2_with fail;go_roundw
          case rel =>
           have hgl := zu HGL;refine ⟨tt + 1, by simp, h, (zu HB5).trans ((zu HBE3).mono (by have := (zu HW).size; omega)), by omega, (zu HBE3).cell (p := ⟨g5, o5, none⟩) hg5 |>.trans (zu HC5'), (zu HI5).below (zu HBE3) hb0, .inl ⟨tt, zu HSX, by omega, zu HTI, zu HNV, ?_, (zu HV5).below (zu HBE3) hgl⟩⟩;refine ⟨g3, 0, cap3, _, rfl, hg3', by omega, zu HCL3, g2, 0, cap2, ?_, by omega, by omega, ?_⟩
           ·rw [← zu HLN2]
            simp
           ·intro j z hj
            exact (World.cell?_of_block (w := w2) (a := ⟨g2, 0 + j, none⟩) (zu HG23)).trans (zu HCE2 j z hj)
          case measure => simp only [intOf]; omega
         ·have HNV : Hid (tt ∈ vis (sc nm) t i0) := hide (by rw [List.contains_eq_mem] at hvs; exact of_decide_eq_true hvs)
          rw [hvs] at hcs;clear hvs;go_wp2_with fail;go_roundw
          case rel =>
           refine ⟨tt + 1, by simp, h, zu HW4, zu HS4, zu HC4, zu HI4, .inr ⟨?_, zu HOW, zu HVB⟩⟩;intro y hy _;rw [zu HSX] at hy
           cases hy
           exact ⟨zu HTI, zu HNV⟩
          case measure => simp only [intOf]; omega
    ·have e1 : ¬ (tt : Int) < (n : Int) := by omega
     have ez : decide ((tt : Int) < (n : Int)) = false := df e1;go_wp2_with fail;go_roundw
     case rel =>
      refine ⟨zu HW4, .inr ⟨rfl, ?_⟩⟩
      rcases zu HST with ⟨y, h1, h2, h3, h4, h5, h6⟩ | ⟨h1, h2, h3⟩
      ·exact .inl ⟨y, h1, h3, h4, h5, h6⟩
      ·obtain ⟨un, cn, e, _⟩ := own_form h2
       exact .inr ⟨fun y hy => h1 y hy (by have := (sc_lt (zu HO) hy).2; rw [zu HL] at this; omega), un, cn, e⟩
     case measure => simp [intOf]
theorem digit_any (r : Nat) (w : World) (h : r ≤ 2147483647) :
  Calls Tryz.prog 210 #[.int .i32 (r : Int)] w fun e w' => e = .returned (.bool (isDigit r)) ∧ w' = w := by
 rcases (by omega : r < 48 ∨ (48 ≤ r ∧ r ≤ 57) ∨ (48 ≤ r ∧ 57 < r)) with h1 | ⟨h1, h2⟩ | ⟨h1, h2⟩
 ·rw [show isDigit r = false from df (by omega)]
  go_enter Tryz.func210, Tryz.ntmps210;go_wp2;go_ret;exact ⟨ret_bool (by first | rfl | (simp; omega)), rfl⟩
 ·rw [show isDigit r = true from dt (by omega)]
  go_enter Tryz.func210, Tryz.ntmps210;go_wp2;go_ret;exact ⟨ret_bool (by first | rfl | (simp; omega)), rfl⟩
 ·rw [show isDigit r = false from df (by omega)]
  go_enter Tryz.func210, Tryz.ntmps210;go_wp2;go_ret;exact ⟨ret_bool (by first | rfl | (simp; omega)), rfl⟩
theorem rune_yes (r : Nat) (h : ((97 ≤ r ∧ r ≤ 122) ∨ (65 ≤ r ∧ r ≤ 90) ∨ r = 95) ∨ ((192 ≤ r ∧ r ≤ 591 ∧ r ≠ 215 ∧ r ≠ 247) ∨ (913 ≤ r ∧ r ≤ 969) ∨ (1040 ≤ r ∧ r ≤ 1103))) : runeB r = true := by
 rcases h with h | h
 ·simp only [runeB, show isAscii r = true from dt h, Bool.true_or]
 ·simp only [runeB, show isFar r = true from dt h, Bool.or_true]
theorem rune_no (r : Nat) (h1 : ¬ ((97 ≤ r ∧ r ≤ 122) ∨ (65 ≤ r ∧ r ≤ 90) ∨ r = 95)) (h2 : ¬ ((192 ≤ r ∧ r ≤ 591 ∧ r ≠ 215 ∧ r ≠ 247) ∨ (913 ≤ r ∧ r ≤ 969) ∨ (1040 ≤ r ∧ r ≤ 1103))) : runeB r = false := by
 simp only [runeB, show isAscii r = false from df h1, show isFar r = false from df h2, Bool.or_self]
theorem letter_0 (r : Nat) (w : World) (h1 : 0 ≤ r) (h2 : r ≤ 64) :
  Calls Tryz.prog 209 #[.int .i32 (r : Int)] w fun e w' => e = .returned (.bool false) ∧ w' = w := by
 go_enter Tryz.func209, Tryz.ntmps209;go_wp2;go_ret;exact ⟨ret_bool (by first | rfl | (simp; omega)), rfl⟩
theorem letter_1 (r : Nat) (w : World) (h1 : 65 ≤ r) (h2 : r ≤ 90) :
  Calls Tryz.prog 209 #[.int .i32 (r : Int)] w fun e w' => e = .returned (.bool true) ∧ w' = w := by
 go_enter Tryz.func209, Tryz.ntmps209;go_wp2;go_ret;exact ⟨ret_bool (by first | rfl | (simp; omega)), rfl⟩
theorem letter_2 (r : Nat) (w : World) (h1 : 91 ≤ r) (h2 : r ≤ 94) :
  Calls Tryz.prog 209 #[.int .i32 (r : Int)] w fun e w' => e = .returned (.bool false) ∧ w' = w := by
 go_enter Tryz.func209, Tryz.ntmps209;go_wp2;go_ret;exact ⟨ret_bool (by first | rfl | (simp; omega)), rfl⟩
theorem letter_3 (r : Nat) (w : World) (h1 : 95 ≤ r) (h2 : r ≤ 95) :
  Calls Tryz.prog 209 #[.int .i32 (r : Int)] w fun e w' => e = .returned (.bool true) ∧ w' = w := by
 go_enter Tryz.func209, Tryz.ntmps209;go_wp2;go_ret;exact ⟨ret_bool (by first | rfl | (simp; omega)), rfl⟩
theorem letter_4 (r : Nat) (w : World) (h1 : 96 ≤ r) (h2 : r ≤ 96) :
  Calls Tryz.prog 209 #[.int .i32 (r : Int)] w fun e w' => e = .returned (.bool false) ∧ w' = w := by
 go_enter Tryz.func209, Tryz.ntmps209;go_wp2;go_ret;exact ⟨ret_bool (by first | rfl | (simp; omega)), rfl⟩
theorem letter_5 (r : Nat) (w : World) (h1 : 97 ≤ r) (h2 : r ≤ 122) :
  Calls Tryz.prog 209 #[.int .i32 (r : Int)] w fun e w' => e = .returned (.bool true) ∧ w' = w := by
 go_enter Tryz.func209, Tryz.ntmps209;go_wp2;go_ret;exact ⟨ret_bool (by first | rfl | (simp; omega)), rfl⟩
theorem letter_6 (r : Nat) (w : World) (h1 : 123 ≤ r) (h2 : r ≤ 191) :
  Calls Tryz.prog 209 #[.int .i32 (r : Int)] w fun e w' => e = .returned (.bool false) ∧ w' = w := by
 go_enter Tryz.func209, Tryz.ntmps209;go_wp2;go_ret;exact ⟨ret_bool (by first | rfl | (simp; omega)), rfl⟩
theorem letter_7 (r : Nat) (w : World) (h1 : 192 ≤ r) (h2 : r ≤ 214) :
  Calls Tryz.prog 209 #[.int .i32 (r : Int)] w fun e w' => e = .returned (.bool true) ∧ w' = w := by
 go_enter Tryz.func209, Tryz.ntmps209;go_wp2;go_ret;exact ⟨ret_bool (by first | rfl | (simp; omega)), rfl⟩
theorem letter_8 (r : Nat) (w : World) (h1 : 215 ≤ r) (h2 : r ≤ 215) :
  Calls Tryz.prog 209 #[.int .i32 (r : Int)] w fun e w' => e = .returned (.bool false) ∧ w' = w := by
 go_enter Tryz.func209, Tryz.ntmps209;go_wp2;go_ret;exact ⟨ret_bool (by first | rfl | (simp; omega)), rfl⟩
theorem letter_9 (r : Nat) (w : World) (h1 : 216 ≤ r) (h2 : r ≤ 246) :
  Calls Tryz.prog 209 #[.int .i32 (r : Int)] w fun e w' => e = .returned (.bool true) ∧ w' = w := by
 go_enter Tryz.func209, Tryz.ntmps209;go_wp2;go_ret;exact ⟨ret_bool (by first | rfl | (simp; omega)), rfl⟩
theorem letter_10 (r : Nat) (w : World) (h1 : 247 ≤ r) (h2 : r ≤ 247) :
  Calls Tryz.prog 209 #[.int .i32 (r : Int)] w fun e w' => e = .returned (.bool false) ∧ w' = w := by
 go_enter Tryz.func209, Tryz.ntmps209;go_wp2;go_ret;exact ⟨ret_bool (by first | rfl | (simp; omega)), rfl⟩
theorem letter_11 (r : Nat) (w : World) (h1 : 248 ≤ r) (h2 : r ≤ 591) :
  Calls Tryz.prog 209 #[.int .i32 (r : Int)] w fun e w' => e = .returned (.bool true) ∧ w' = w := by
 go_enter Tryz.func209, Tryz.ntmps209;go_wp2;go_ret;exact ⟨ret_bool (by first | rfl | (simp; omega)), rfl⟩
theorem letter_12 (r : Nat) (w : World) (h1 : 592 ≤ r) (h2 : r ≤ 912) :
  Calls Tryz.prog 209 #[.int .i32 (r : Int)] w fun e w' => e = .returned (.bool false) ∧ w' = w := by
 go_enter Tryz.func209, Tryz.ntmps209;go_wp2;go_ret;exact ⟨ret_bool (by first | rfl | (simp; omega)), rfl⟩
theorem letter_13 (r : Nat) (w : World) (h1 : 913 ≤ r) (h2 : r ≤ 969) :
  Calls Tryz.prog 209 #[.int .i32 (r : Int)] w fun e w' => e = .returned (.bool true) ∧ w' = w := by
 go_enter Tryz.func209, Tryz.ntmps209;go_wp2;go_ret;exact ⟨ret_bool (by first | rfl | (simp; omega)), rfl⟩
theorem letter_14 (r : Nat) (w : World) (h1 : 970 ≤ r) (h2 : r ≤ 1039) :
  Calls Tryz.prog 209 #[.int .i32 (r : Int)] w fun e w' => e = .returned (.bool false) ∧ w' = w := by
 go_enter Tryz.func209, Tryz.ntmps209;go_wp2;go_ret;exact ⟨ret_bool (by first | rfl | (simp; omega)), rfl⟩
theorem letter_15 (r : Nat) (w : World) (h1 : 1040 ≤ r) (h2 : r ≤ 1103) :
  Calls Tryz.prog 209 #[.int .i32 (r : Int)] w fun e w' => e = .returned (.bool true) ∧ w' = w := by
 go_enter Tryz.func209, Tryz.ntmps209;go_wp2;go_ret;exact ⟨ret_bool (by first | rfl | (simp; omega)), rfl⟩
theorem letter_16 (r : Nat) (w : World) (h1 : 1104 ≤ r) (h2 : r ≤ 2147483647) :
  Calls Tryz.prog 209 #[.int .i32 (r : Int)] w fun e w' => e = .returned (.bool false) ∧ w' = w := by
 go_enter Tryz.func209, Tryz.ntmps209;go_wp2;go_ret;exact ⟨ret_bool (by first | rfl | (simp; omega)), rfl⟩
theorem letter_any (r : Nat) (w : World) (h : r ≤ 2147483647) :
  Calls Tryz.prog 209 #[.int .i32 (r : Int)] w fun e w' => e = .returned (.bool (runeB r)) ∧ w' = w := by
 by_cases c0 : r ≤ 64
 ·rw [rune_no r (by omega) (by omega)]
  exact letter_0 r w (by omega) c0
 by_cases c1 : r ≤ 90
 ·rw [rune_yes r (by omega)]
  exact letter_1 r w (by omega) c1
 by_cases c2 : r ≤ 94
 ·rw [rune_no r (by omega) (by omega)]
  exact letter_2 r w (by omega) c2
 by_cases c3 : r ≤ 95
 ·rw [rune_yes r (by omega)]
  exact letter_3 r w (by omega) c3
 by_cases c4 : r ≤ 96
 ·rw [rune_no r (by omega) (by omega)]
  exact letter_4 r w (by omega) c4
 by_cases c5 : r ≤ 122
 ·rw [rune_yes r (by omega)]
  exact letter_5 r w (by omega) c5
 by_cases c6 : r ≤ 191
 ·rw [rune_no r (by omega) (by omega)]
  exact letter_6 r w (by omega) c6
 by_cases c7 : r ≤ 214
 ·rw [rune_yes r (by omega)]
  exact letter_7 r w (by omega) c7
 by_cases c8 : r ≤ 215
 ·rw [rune_no r (by omega) (by omega)]
  exact letter_8 r w (by omega) c8
 by_cases c9 : r ≤ 246
 ·rw [rune_yes r (by omega)]
  exact letter_9 r w (by omega) c9
 by_cases c10 : r ≤ 247
 ·rw [rune_no r (by omega) (by omega)]
  exact letter_10 r w (by omega) c10
 by_cases c11 : r ≤ 591
 ·rw [rune_yes r (by omega)]
  exact letter_11 r w (by omega) c11
 by_cases c12 : r ≤ 912
 ·rw [rune_no r (by omega) (by omega)]
  exact letter_12 r w (by omega) c12
 by_cases c13 : r ≤ 969
 ·rw [rune_yes r (by omega)]
  exact letter_13 r w (by omega) c13
 by_cases c14 : r ≤ 1039
 ·rw [rune_no r (by omega) (by omega)]
  exact letter_14 r w (by omega) c14
 by_cases c15 : r ≤ 1103
 ·rw [rune_yes r (by omega)]
  exact letter_15 r w (by omega) c15
 rw [rune_no r (by omega) (by omega)];exact letter_16 r w (by omega) h
end Go.Proofs.YtkiplmabjeadgaaGreat
