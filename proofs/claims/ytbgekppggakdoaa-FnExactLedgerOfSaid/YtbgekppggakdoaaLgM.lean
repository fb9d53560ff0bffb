/-
  The model's books.
-/
import Derived.Test.YtbgekppggakdoaaLgP
import Derived.Test.YtbgekppggakdoaaPcM
namespace Go.Proofs.Ytbgekppggakdoaa
open Go.ChangeShapes Go.WideShapes Go.ChangeAt Go.RowKit
set_option linter.unusedVariables false
set_option linter.unusedSimpArgs false

theorem Bo.oth {w W : World} {gk gb rc m : Nat} {S L E La Se To : Int} {f : Nat → Int} (h : Bo w W gk gb rc m S L E La Se To f) {g k : Nat} (x : Value) (hg : gk < g ∧ gb < g) : Bo w (W.setCell ⟨g, k, none⟩ x) gk gb rc m S L E La Se To f := by
  obtain ⟨a, b⟩ := h.n2; obtain ⟨c, d, e⟩ := h.n3
  exact ⟨h.bk.ne (by omega), h.bu.ne (by omega), h.sh.ne (by omega), h.rs.ne (by omega), Below.setCell h.be (by simp only; omega) _, h.n1, h.n2, h.n3⟩
/-- the ends of the jobs, as a row -/
def ens (h : Hl) : List Int := h.pg.map Prod.snd
theorem ens_set (h : Hl) (q a : Nat) (x : Int) (ms : List Mch) : ens ⟨ms, h.pg.set q (a, x)⟩ = (ens h).set q x := by simp [ens, List.map_set]
theorem ens_at {h : Hl} {q : Nat} {g : Nat × Int} (hg : h.pg[q]? = some g) : (ens h)[q]? = some g.2 := by simp [ens, hg]
set_option maxRecDepth 100000 in
set_option maxHeartbeats 16000000 in
theorem lgM_any (N S L : Int) (u : Option Addr) (p po n c : Nat) (J : List Jb) (pu : Option Addr) (pp ppo np pcap : Nat) (P : List Slt) (w : World) (hl : J.length = n) (hn : n ≤ 9223372036854775807) (hu : Jbs w u p po J) (hpl : P.length = np) (hnp : np ≤ 9223372036854775807) (hp : SlG slc 6 w pu pp ppo P) :
    Calls Try.prog 18 #[.agg #[.int .i64 N, .int .i64 S, .int .i64 L], .slice u n c, .slice pu np pcap] w fun e w' => (∃ v, e = .returned v ∧ LgAns N S L J P w.heap.size v w') ∧ Below w.heap.size w w' := by
  have HB0 := hide (ba (ba (Below.refl w.heap.size w) (.cells #[.int .i64 N, .int .i64 S, .int .i64 L] 27)) (.cells #[.int .i64 0, .int .i64 0, .int .i64 0, .int .i64 0, .slice none 0 0] 43))
  have HV := hide ((vb_new w 27 [.int .i64 N, .int .i64 S, .int .i64 L] w.heap.size rfl).bel (ba (Below.refl _ _) (.cells #[.int .i64 0, .int .i64 0, .int .i64 0, .int .i64 0, .slice none 0 0] 43)))
  have HR := hide (vb_new (w.alloc (.cells #[.int .i64 N, .int .i64 S, .int .i64 L] 27)) 43 [.int .i64 0, .int .i64 0, .int .i64 0, .int .i64 0, .slice none 0 0] (w.heap.size + 1) (by simp))
  have HU := hide (fun X (hX : Below w.heap.size w X) => hu.bel hX)
  have HPS := hide (fun X (hX : Below w.heap.size w X) => hp.bel hX)
  have HC := hide (fun X (hX : Below w.heap.size w X) => pcM_any N S L u p po n c J pu pp ppo np pcap P X hl hn (hu.bel hX) hpl hnp (hp.bel hX))
  have n0 : (0 : Int) ≤ (n : Int) := Int.natCast_nonneg _
  have np0 : (0 : Int) ≤ (np : Int) := Int.natCast_nonneg _
  by_cases hz : pcC N S L J P = 0
  rotate_left
  · have cz : (pcC N S L J P != 0) = true := by simp [hz]
    have HA : Hid (∀ W, LgAns N S L J P w.heap.size (.tuple #[.agg #[.int .i64 0, .int .i64 0, .int .i64 0, .int .i64 0, .slice none 0 0], .int .i64 (pcC N S L J P)]) W) := hide (fun W => ⟨fun _ => rfl, fun h => absurd h hz⟩)
    clear hu hl hp hpl
    go_enter Try.func18, Try.ntmps18
    go_wp2_with fail
    refine (unhide HC _ (unhide HB0)).mono ?_
    rintro e W1 ⟨rfl, hb⟩
    have r1 := (unhide HR).bel hb
    have a0 := r1.cell (m := 0) rfl
    have a1 := r1.cell (m := 1) rfl
    have a2 := r1.cell (m := 2) rfl
    have a3 := r1.cell (m := 3) rfl
    have a4 := r1.cell (m := 4) rfl
    have fz : ∀ o, W1.frozen? ⟨w.heap.size + 1, o, none⟩ = false := r1.frozen
    have HB1 := hide (bc (unhide HB0) hb)
    generalize pcC N S L J P = cc at *
    clear hb hz
    have HR1 := hide r1
    clear r1
    go_wp2_with fail
    have r5 := (((((unhide HR1).set 0 (.int .i64 0)).set 1 (.int .i64 0)).set 2 (.int .i64 0)).set 3 (.int .i64 0)).set 4 (.slice none 0 0)
    simp only [List.set_cons_zero, List.set_cons_succ] at r5
    have z0 := r5.cell (m := 0) rfl
    have z1 := r5.cell (m := 1) rfl
    have z2 := r5.cell (m := 2) rfl
    have z3 := r5.cell (m := 3) rfl
    have z4 := r5.cell (m := 4) rfl
    have q5 := Below.setCell (Below.setCell (Below.setCell (Below.setCell (Below.setCell (unhide HB1) (p := ⟨w.heap.size + 1, 0, none⟩) (by simp only; omega) (.int .i64 0)) (p := ⟨w.heap.size + 1, 1, none⟩) (by simp only; omega) (.int .i64 0)) (p := ⟨w.heap.size + 1, 2, none⟩) (by simp only; omega) (.int .i64 0)) (p := ⟨w.heap.size + 1, 3, none⟩) (by simp only; omega) (.int .i64 0)) (p := ⟨w.heap.size + 1, 4, none⟩) (by simp only; omega) (.slice none 0 0)
    exact bodyPost_ret (v := .tuple #[.agg #[.int .i64 0, .int .i64 0, .int .i64 0, .int .i64 0, .slice none 0 0], .int .i64 cc]) (by simp [results, Try.results18, go_sem, z0, z1, z2, z3, z4]; done) rfl ⟨⟨_, rfl, unhide HA _⟩, q5⟩
  obtain ⟨hsh, hp4, hj4, hup⟩ := pcC_zero hz
  obtain ⟨⟨N1, N2⟩, ⟨S1, S2⟩, ⟨L1, L2⟩, hJ20, hJok, hnd⟩ := shOk_iff.1 hsh
  obtain ⟨m, rfl⟩ := Int.eq_ofNat_of_zero_le (show 0 ≤ N by omega)
  have HZ := hide hz
  rw [hpl] at hp4 hup
  have HUP := hide hup
  have HSO := hide (fun i x (hx : P[i]? = some x) => slot_ok N1 ⟨S1, S2⟩ hJok (by rw [hpl]; exact hup) hx)
  have HLK := hide (fun i (hi : i ≤ np) => lk_all N1 ⟨S1, S2⟩ hJok (by rw [hpl]; exact hup) i (by rw [hpl]; exact hi))
  have hv9 := Hv.up N1 ⟨S1, S2⟩ (by omega) hJok np (by rw [hpl]; exact Nat.le_refl _) hup
  rw [List.take_of_length_le (by rw [hpl]; exact Nat.le_refl _)] at hv9
  have HHK := hide hv9.hk
  have HLB := hide (lat_bd (J := J) (h := hal (m : Int) J P) hv9.hk.pgk (fun j hj => (jbOk_due (hJok j hj)).1) hv9.gl)
  have HL := hide hl
  have HPL := hide hpl
  have HJ := hide hJok
  have n20 : n ≤ 20 := by rw [← hl]; exact hJ20
  have HFIN : Hid (∀ W g, w.heap.size ≤ g → iblk W g 3 (tab m (lgF P)) → LgAns (m : Int) S L J P w.heap.size (.tuple #[.agg #[.int .i64 (lgE P), .int .i64 (lat J (hal (m : Int) J P) n), .int .i64 ((lgT P : Int) * S), .int .i64 (lgT P : Int), .slice (some ⟨g, 0, none⟩) m m], .int .i64 0]) W) := hide (by
    intro W g hg hi
    refine ⟨fun h => absurd (unhide HZ) h, fun _ => ⟨g, hg, ?_, ?_⟩⟩
    · rw [hl, Int.toNat_natCast]
    · rw [Int.toNat_natCast]; exact hi)
  have m0 : (0 : Int) ≤ (m : Int) := Int.natCast_nonneg _
  have hmk1 := fun W => make_loads m (by omega) W
  clear hu hl hp hpl hz hsh hnd hJok hup hv9
  go_enter Try.func18, Try.ntmps18
  go_wp2_with fail
  refine (unhide HC _ (unhide HB0)).mono ?_
  rintro e W1 ⟨rfl, hb⟩
  have ez := unhide HZ
  rw [ez]
  clear ez
  have v1 := (unhide HV).bel hb
  have k0 := v1.cell (m := 0) rfl
  have HV1 := hide v1
  have HR1 := hide ((unhide HR).bel hb)
  have HB1 := hide (bc (unhide HB0) hb)
  have hr1 := (unhide HR1).lt
  have vl1 := v1.lt
  have hmk2 := fun W => make_loads n (by omega) W
  clear hb v1
  go_wp2_with fail
  have HBO : Hid (Bo w (((W1.alloc (.cells ((tab m (fun _ => (0 : Int))).map (Value.int .i64)).toArray 3)).alloc (.cells #[.int .i64 0, .int .i64 0, .int .i64 0, .int .i64 0, .slice (some ⟨W1.heap.size, 0, none⟩) m m] 43)).alloc (.cells ((tab n (fun _ => (0 : Int))).map (Value.int .i64)).toArray 3)) (W1.heap.size + 1) W1.heap.size (w.heap.size + 1) m S L 0 0 0 0 (fun _ => 0)) := hide (Bo.bel ⟨vb_new _ 43 [.int .i64 0, .int .i64 0, .int .i64 0, .int .i64 0, .slice (some ⟨W1.heap.size, 0, none⟩) m m] _ (by simp), (iblk_new W1 3 _).bel (ba (Below.refl _ _) _), ((unhide HV1).bel (ba (Below.refl _ _) _)).bel (ba (Below.refl _ _) _), ((unhide HR1).bel (ba (Below.refl _ _) _)).bel (ba (Below.refl _ _) _), ba (ba (unhide HB1) _) _, by omega, by omega, by omega⟩ (ba (Below.refl _ _) _))
  have HEN : Hid (iblk (((W1.alloc (.cells ((tab m (fun _ => (0 : Int))).map (Value.int .i64)).toArray 3)).alloc (.cells #[.int .i64 0, .int .i64 0, .int .i64 0, .int .i64 0, .slice (some ⟨W1.heap.size, 0, none⟩) m m] 43)).alloc (.cells ((tab n (fun _ => (0 : Int))).map (Value.int .i64)).toArray 3)) (W1.heap.size + 1 + 1) 3 (tab n (fun _ => 0))) := hide (by
    have := iblk_new ((W1.alloc (.cells ((tab m (fun _ => (0 : Int))).map (Value.int .i64)).toArray 3)).alloc (.cells #[.int .i64 0, .int .i64 0, .int .i64 0, .int .i64 0, .slice (some ⟨W1.heap.size, 0, none⟩) m m] 43)) 3 (tab n (fun _ => (0 : Int)))
    simpa using this)
  have HE0 : Hid (tab n (fun _ => (0 : Int)) = ens (hal (m : Int) J (P.take 0))) := hide (by rw [tab_const]; simp [hal, h0, ens, unhide HL])
  have HGE : Hid (w.heap.size + 1 < W1.heap.size) := hide (by omega)
  clear hmk1 hmk2 k0 HV HV1 HR HR1 HB0 HB1 HC hr1 vl1
  generalize hgb : W1.heap.size = gb at *
  generalize ((W1.alloc (.cells ((tab m (fun _ => (0 : Int))).map (Value.int .i64)).toArray 3)).alloc (.cells #[.int .i64 0, .int .i64 0, .int .i64 0, .int .i64 0, .slice (some ⟨gb, 0, none⟩) m m] 43)).alloc (.cells ((tab n (fun _ => (0 : Int))).map (Value.int .i64)).toArray 3) = W2 at *
  clear hgb
  go_loopw [12, 13] (fun s _ W => ∃ i : Nat, s = .int .i64 (i : Int) ∧ i ≤ np ∧ Bo w W (gb + 1) gb (w.heap.size + 1) m S L (lgE (P.take i)) 0 0 (lgT (P.take i) : Int) (lgF (P.take i)) ∧ iblk W (gb + 1 + 1) 3 (ens (hal (m : Int) J (P.take i)))) (fun s _ _ => np - (intOf s).toNat)
  case atStart => exact ⟨0, rfl, Nat.zero_le _, by simpa [lgE, lgT, lgF] using unhide HBO, by rw [← unhide HE0]; exact unhide HEN⟩
  case round =>
    obtain ⟨i, rfl, hi, hbo, hen⟩ := hrel
    have HBO2 := hide hbo
    have HEN2 := hide hen
    have i0 : (0 : Int) ≤ (i : Int) := Int.natCast_nonneg _
    have hge := unhide HGE
    clear HBO HEN
    by_cases h : i < np
    · have i1 : (i : Int) < (np : Int) := by omega
      have iz : decide ((i : Int) < (np : Int)) = true := decide_eq_true i1
      obtain ⟨x, hx⟩ := get_some (unhide HPL) h
      obtain ⟨rfl, ppw, z0, z1, z2, z3, z4, z5⟩ := (unhide HPS _ hbo.be).sat6 hx
      obtain ⟨a1, a2, a3, a4, a5, a6, a7, a8, a9⟩ := unhide HSO i x hx
      rw [unhide HL] at a4
      have hlk := unhide HLK i hi
      obtain ⟨e0, e1⟩ := hlk.e0
      obtain ⟨f0, f1⟩ := hlk.f0 x.mc.toNat
      have t0 := hlk.t0
      have HX := hide hx
      have HE := hide (lgE_take hx)
      have HF := hide (lgF_take hx)
      have HTT := hide (lgT_take hx)
      have HPG := hide (hal_take (m : Int) J hx)
      have hgl := (Hv.up N1 ⟨S1, S2⟩ (by omega) (unhide HJ) i (by rw [unhide HPL]; omega) (fun k hk => unhide HUP k (by omega))).gl
      rw [unhide HL] at hgl
      obtain ⟨g, hg⟩ := get_some hgl (show x.jb.toNat < n by omega)
      have egA : gAt (hal (m : Int) J (P.take i)) x.jb = g := getD_some hg
      rw [egA] at a9
      have ue := hen.cell (ens_at hg)
      have hel := hen.lt
      clear hx hlk egA hgl
      obtain ⟨jb, st, mc, fr, ti, fs⟩ := x
      simp only [] at *
      obtain ⟨mm, rfl⟩ := Int.eq_ofNat_of_zero_le a1
      obtain ⟨q, rfl⟩ := Int.eq_ofNat_of_zero_le a3
      simp only [Int.toNat_natCast] at *
      have mm1 : (mm : Int) < (m : Int) := by omega
      have mmn : mm < m := by omega
      have q1 : (q : Int) < (n : Int) := by omega
      have mxe : max g.2 ti = ti := by omega
      have HSD : Hid (ens (hal (m : Int) J (P.take (i + 1))) = (ens (hal (m : Int) J (P.take i))).set q ti) := hide (by rw [unhide HPG]; simp only [sDo, Int.toNat_natCast]; exact ens_set _ _ _ _ _)
      have b0 := hbo.bk.cell (m := 0) rfl
      have b3 := hbo.bk.cell (m := 3) rfl
      have b4 := hbo.bk.cell (m := 4) rfl
      have fzk : ∀ o, wr.frozen? ⟨gb + 1, o, none⟩ = false := hbo.bk.frozen
      have fzb : ∀ o, wr.frozen? ⟨gb, o, none⟩ = false := hbo.bu.frozen
      have fze : ∀ o, wr.frozen? ⟨gb + 1 + 1, o, none⟩ = false := hen.frozen
      have u0 := hbo.bu.cell (tab_at (lgF (P.take i)) mmn)
      have kl := hbo.bk.lt
      have ul := hbo.bu.lt
      generalize hq1 : lgE (P.take i) = E at *
      generalize hq2 : lgF (P.take i) mm = fm at *
      generalize hq3 : lgT (P.take i) = T at *
      generalize hq4 : g.2 = en at *
      have w1 : IntKind.i64.wrap (ti - fr) = ti - fr := wrap_i (by omega) (by omega)
      have w2 : IntKind.i64.wrap (fm + (ti - fr)) = fm + (ti - fr) := wrap_i (by omega) (by omega)
      have w3 : IntKind.i64.wrap ((T : Int) + 1) = (T : Int) + 1 := wrap_i (by omega) (by omega)
      clear hq1 hq2 hq3 hq4 hbo hen a1 a3 hg HPG
      cases fs with
      | true =>
        go_wp2_with fail
        go_region
        go_wp2_with fail
        go_region
        go_wp2_with fail
        go_roundw
        case rel =>
          have r1 := (((((unhide HBO2).setE (max E ti)).setB mm (fm + (ti - fr))).oth (g := gb + 1 + 1) (k := q) (.int .i64 ti) (by omega)).setT ((T : Int) + 1)).bel (ba (Below.refl _ _) (.cells #[.int .i64 (q : Int), .int .i64 st, .int .i64 (mm : Int), .int .i64 fr, .int .i64 ti, .bool true] 71))
          have r2 := (((((unhide HEN2).ne (g' := gb + 1) (o := 0) (x := .int .i64 (max E ti)) (by omega)).ne (g' := gb) (o := mm) (x := .int .i64 (fm + (ti - fr))) (by omega)).set q ti).ne (g' := gb + 1) (o := 3) (x := .int .i64 ((T : Int) + 1)) (by omega)).bel (ba (Below.refl _ _) (.cells #[.int .i64 (q : Int), .int .i64 st, .int .i64 (mm : Int), .int .i64 fr, .int .i64 ti, .bool true] 71))
          refine ⟨i + 1, by simp, h, ?_, ?_⟩
          · rw [unhide HE, unhide HF, unhide HTT, if_pos (by first | rfl | trivial), show ((T + 1 : Nat) : Int) = (T : Int) + 1 by omega]
            exact r1.drew.drew
          · rw [unhide HSD]
            exact r2
        case measure => first | (simp only [intOf]; omega) | (simp [intOf]; omega)
      | false =>
        go_wp2_with fail
        go_region
        go_wp2_with fail
        go_region
        go_wp2_with fail
        go_roundw
        case rel =>
          have r1 := (((((unhide HBO2).setE (max E ti)).setB mm (fm + (ti - fr))).oth (g := gb + 1 + 1) (k := q) (.int .i64 ti) (by omega))).bel (ba (Below.refl _ _) (.cells #[.int .i64 (q : Int), .int .i64 st, .int .i64 (mm : Int), .int .i64 fr, .int .i64 ti, .bool false] 71))
          have r2 := ((((unhide HEN2).ne (g' := gb + 1) (o := 0) (x := .int .i64 (max E ti)) (by omega)).ne (g' := gb) (o := mm) (x := .int .i64 (fm + (ti - fr))) (by omega)).set q ti).bel (ba (Below.refl _ _) (.cells #[.int .i64 (q : Int), .int .i64 st, .int .i64 (mm : Int), .int .i64 fr, .int .i64 ti, .bool false] 71))
          refine ⟨i + 1, by simp, h, ?_, ?_⟩
          · rw [unhide HE, unhide HF, unhide HTT, if_neg (by simp)]
            exact r1.drew.drew
          · rw [unhide HSD]
            exact r2
        case measure => first | (simp only [intOf]; omega) | (simp [intOf]; omega)
    · have iz : decide ((i : Int) < (np : Int)) = false := decide_eq_false (by omega)
      have iq : ¬ ((i : Int) < (np : Int)) := by omega
      have HTP : Hid (P.take i = P) := hide (List.take_of_length_le (by rw [unhide HPL]; omega))
      rw [unhide HTP] at HBO2 HEN2
      have hlk := unhide HLK i hi
      have t0 := hlk.t0
      rw [unhide HTP] at t0
      have b3 := (unhide HBO2).bk.cell (m := 3) rfl
      have b2 := (unhide HBO2).bk.cell (m := 2) rfl
      have s1 := (unhide HBO2).sh.cell (m := 1) rfl
      have fzk : ∀ o, wr.frozen? ⟨gb + 1, o, none⟩ = false := (unhide HBO2).bk.frozen
      have kl := (unhide HBO2).bk.lt
      generalize hq3 : lgT P = T at *
      have hTS : 0 ≤ (T : Int) * S ∧ (T : Int) * S ≤ 4096 * 1000 := ⟨Int.mul_nonneg (by omega) S1, by
        have h1 : (T : Int) * S ≤ (T : Int) * 1000 := Int.mul_le_mul_of_nonneg_left S2 (by omega)
        omega⟩
      have wts : IntKind.i64.wrap ((T : Int) * S) = (T : Int) * S := wrap_i (by omega) (by omega)
      have HB5 := hide ((unhide HBO2).setS ((T : Int) * S))
      have HE5 := hide ((unhide HEN2).ne (g' := gb + 1) (o := 2) (x := .int .i64 ((T : Int) * S)) (by omega))
      clear hbo hen hlk hq3
      go_wp2_with fail
      go_loopw [14] (fun s W => ∃ k : Nat, s = .int .i64 (k : Int) ∧ k ≤ n ∧ Bo w W (gb + 1) gb (w.heap.size + 1) m S L (lgE P) (lat J (hal (m : Int) J P) k) ((T : Int) * S) (T : Int) (lgF P) ∧ iblk W (gb + 1 + 1) 3 (ens (hal (m : Int) J P))) (fun s _ => n - (intOf s).toNat)
      case atStart => exact ⟨0, rfl, Nat.zero_le _, unhide HB5, unhide HE5⟩
      case round =>
        obtain ⟨k, rfl, hk, hbo, hen⟩ := hrel
        have HBO4 := hide hbo
        have HEN4 := hide hen
        have k0 : (0 : Int) ≤ (k : Int) := Int.natCast_nonneg _
        clear HBO2 HEN2 HB5 HE5
        by_cases hkn : k < n
        · have k1 : (k : Int) < (n : Int) := by omega
          have kz : decide ((k : Int) < (n : Int)) = true := decide_eq_true k1
          obtain ⟨j, hj⟩ := get_some (unhide HL) hkn
          have hgl := (unhide HHK).gl
          rw [unhide HL] at hgl
          obtain ⟨g, hg⟩ := get_some hgl hkn
          obtain ⟨rfl, pw, _, l1, _⟩ := (unhide HU _ hbo.be).at hj
          have s0 := hen.cell (ens_at hg)
          have hgk := (unhide HHK).pgk g (List.mem_of_getElem? hg)
          have hdk := jbOk_due (unhide HJ j (List.mem_of_getElem? hj))
          have HLS := hide (lat_succ (J := J) hg hj)
          have hlb := unhide HLB k (by rw [unhide HL]; omega)
          have b1 := hbo.bk.cell (m := 1) rfl
          have fzk : ∀ o, wr.frozen? ⟨gb + 1, o, none⟩ = false := hbo.bk.frozen
          have kl := hbo.bk.lt
          have sl2 := hen.lt
          clear hj hg hbo hen hgl
          obtain ⟨dn, en⟩ := g
          simp only [] at s0 hgk HLS
          generalize hla : lat J (hal (m : Int) J P) k = la at *
          clear hla
          have w1 : IntKind.i64.wrap (en - j.due) = en - j.due := wrap_i (by omega) (by omega)
          have w2 : IntKind.i64.wrap (la + max (en - j.due) 0) = la + max (en - j.due) 0 := wrap_i (by omega) (by omega)
          have HMX : Hid (la + max 0 (en - j.due) = la + max (en - j.due) 0) := hide (by omega)
          go_wp2_with fail
          go_region
          go_wp2_with fail
          go_roundw
          case rel =>
            have r1 := (unhide HBO4).setL (la + max (en - j.due) 0)
            have r2 := (unhide HEN4).ne (g' := gb + 1) (o := 1) (x := .int .i64 (la + max (en - j.due) 0)) (by omega)
            refine ⟨k + 1, by simp, hkn, ?_, r2⟩
            rw [unhide HLS, unhide HMX]
            exact r1.drew
          case measure => first | (simp only [intOf]; omega) | (simp [intOf]; omega)
        · have kz : decide ((k : Int) < (n : Int)) = false := decide_eq_false (by omega)
          have kq : ¬ ((k : Int) < (n : Int)) := by omega
          have en : n = k := by omega
          subst en
          have b0 := hbo.bk.cell (m := 0) rfl
          have b1 := hbo.bk.cell (m := 1) rfl
          have b2 := hbo.bk.cell (m := 2) rfl
          have b3 := hbo.bk.cell (m := 3) rfl
          have b4 := hbo.bk.cell (m := 4) rfl
          have c0 := hbo.rs.cell (m := 0) rfl
          have c1 := hbo.rs.cell (m := 1) rfl
          have c2 := hbo.rs.cell (m := 2) rfl
          have c3 := hbo.rs.cell (m := 3) rfl
          have c4 := hbo.rs.cell (m := 4) rfl
          have fzr : ∀ o, wr.frozen? ⟨w.heap.size + 1, o, none⟩ = false := hbo.rs.frozen
          have HFI := hide (fun W (hi : iblk W gb 3 (tab m (lgF P))) => unhide HFIN W gb (by omega) hi)
          clear hbo hen HFIN
          generalize lgE P = E at *
          generalize lat J (hal (m : Int) J P) n = La at *
          generalize hTS' : (T : Int) * S = TS at *
          generalize (T : Int) = TT at *
          clear hTS'
          go_wp2_with fail
          have q5 := Below.setCell (Below.setCell (Below.setCell (Below.setCell (Below.setCell (unhide HBO4).be (p := ⟨w.heap.size + 1, 0, none⟩) (by simp only; omega) (.int .i64 E)) (p := ⟨w.heap.size + 1, 1, none⟩) (by simp only; omega) (.int .i64 La)) (p := ⟨w.heap.size + 1, 2, none⟩) (by simp only; omega) (.int .i64 TS)) (p := ⟨w.heap.size + 1, 3, none⟩) (by simp only; omega) (.int .i64 TT)) (p := ⟨w.heap.size + 1, 4, none⟩) (by simp only; omega) (.slice (some ⟨gb, 0, none⟩) m m)
          have r5 := ((((unhide HBO4).rs.set 0 (.int .i64 E)).set 1 (.int .i64 La)).set 2 (.int .i64 TS)).set 3 (.int .i64 TT) |>.set 4 (.slice (some ⟨gb, 0, none⟩) m m)
          simp only [List.set_cons_zero, List.set_cons_succ] at r5
          have z0 := r5.cell (m := 0) rfl
          have z1 := r5.cell (m := 1) rfl
          have z2 := r5.cell (m := 2) rfl
          have z3 := r5.cell (m := 3) rfl
          have z4 := r5.cell (m := 4) rfl
          have ngb : gb ≠ w.heap.size + 1 := by have := (unhide HBO4).n3; omega
          have hi5 := iblk.ne (o := 4) (x := .slice (some ⟨gb, 0, none⟩) m m) (iblk.ne (o := 3) (x := .int .i64 TT) (iblk.ne (o := 2) (x := .int .i64 TS) (iblk.ne (o := 1) (x := .int .i64 La) (iblk.ne (o := 0) (x := .int .i64 E) (unhide HBO4).bu ngb) ngb) ngb) ngb) ngb
          exact bodyPost_ret (v := .tuple #[.agg #[.int .i64 E, .int .i64 La, .int .i64 TS, .int .i64 TT, .slice (some ⟨gb, 0, none⟩) m m], .int .i64 0]) (by simp [results, Try.results18, go_sem, z0, z1, z2, z3, z4]; done) rfl ⟨⟨_, rfl, unhide HFI _ hi5⟩, q5⟩
end Go.Proofs.Ytbgekppggakdoaa
