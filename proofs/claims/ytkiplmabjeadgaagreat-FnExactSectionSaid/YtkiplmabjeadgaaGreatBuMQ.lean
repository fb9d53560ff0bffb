/- A section: its rows of signs, and what Section answers. -/
import Derived.Test.YtkiplmabjeadgaaGreatBdApQ
import Derived.Test.YtkiplmabjeadgaaGreatBdDoQ
import Derived.Test.YtkiplmabjeadgaaGreatMkTextQ
namespace Go.Proofs.YtkiplmabjeadgaaGreat
set_option maxRecDepth 100000
set_option maxHeartbeats 16000000
open Go.ChangeShapes Go.WideShapes Go.ChangeAt Go.RowKit Go.Maps Go.WideMaps
set_option linter.unusedVariables false
set_option linter.unusedSimpArgs false
def BuM (fs : List Ft) (off : List ByteArray) (w : World) (u : Option Addr) (n cu : Nat) (e : Ending) (w' : World) : Prop :=
 (∃ c ab D v v3, e = .returned (.tuple #[v, .int .i64 c, v3]) ∧ Bu fs off c ab D ∧ SRow w' w.heap.size v3 ab ∧
  (∀ D', D = some D' → Fine fs ∧ Okd fs D' ∧ D'.done.length ≤ 30 ∧ ∃ g gf gb B ud cd uo co, v = .pointer (some ⟨g, 0, none⟩) ∧ Mdm w' B u n cu fs g gf gb ud cd uo co D' ∧ (w.heap.size ≤ g ∧ w.heap.size ≤ gf ∧ w.heap.size ≤ gb) ∧ (g < B ∧ gf < B ∧ gb < B ∧ B ≤ w'.heap.size) ∧ g ≠ gf ∧ g ≠ gb ∧ gf ≠ gb)) ∧ Below w.heap.size w w'
theorem BuM.no {fs : List Ft} {off : List ByteArray} {w w' : World} {u : Option Addr} {n cu : Nat} {c : Int} {ab : List ByteArray} {v v3 : Value} (h : Bu fs off c ab none) (hs : SRow w' w.heap.size v3 ab) (hb : Below w.heap.size w w') : BuM fs off w u n cu (.returned (.tuple #[v, .int .i64 c, v3])) w' :=
  ⟨⟨c, ab, none, v, v3, rfl, h, hs, fun _ e => by cases e⟩, hb⟩
theorem Mdm.set {w : World} {B : Nat} {u : Option Addr} {n cu : Nat} {fs : List Ft} {g gf gb go : Nat} {ud : Option Addr} {cd : Nat} {uo : Option Addr} {co : Nat} {D : Bd} (h : Mdm w B u n cu fs g gf gb ud cd uo co D) (h1 : go ≠ g) (h2 : go ≠ gf) (h3 : go ≠ gb) (h4 : go < B) (o : Nat) (x : Value) : Mdm (w.setCell ⟨go, o, none⟩ x) B u n cu fs g gf gb ud cd uo co D :=
  ⟨h.blk.ne (fun e => h1 e.symm), ⟨h.cs.f.ne (fun e => h2 e.symm), h.cs.b.ne (fun e => h3 e.symm)⟩, own_kept h.dn fun j hj => Below.heap_setCell _ _ _ _ (by have := (own_ge h.dn j hj).1; show j ≠ go; omega), own_kept h.od fun j hj => Below.heap_setCell _ _ _ _ (by have := (own_ge h.od j hj).1; show j ≠ go; omega)⟩
theorem doF_code {fs : List Ft} {D : Bd} {i : Nat} {x : Int × List ByteArray} (h : doF fs D i = .inl x) : x.1 ≠ 0 := by
 unfold doF at h
 cases hs : stood fs D (fs.getD i ft0) with
 | inl y =>
  rw [hs] at h
  cases h
  unfold stood at hs
  split at hs
  ·cases hs
  ·simp only at hs
   split at hs
   ·cases hs; show (8 : Int) ≠ 0; decide
   ·split at hs
    ·cases hs; show (13 : Int) ≠ 0; decide
    ·cases hs
 | inr l =>
  rw [hs] at h;simp only at h
  split at h
  ·cases h; show (5 : Int) ≠ 0; decide
  ·cases h
theorem doF_len {fs : List Ft} {D D' : Bd} {i : Nat} (h : doF fs D i = .inr D') : D'.done.length = D.done.length + 1 := by
 unfold doF at h
 cases hs : stood fs D (fs.getD i ft0) with
 | inl y => rw [hs] at h; cases h
 | inr l =>
  rw [hs] at h;simp only at h
  split at h
  ·cases h
  ·cases h; simp
theorem cs0_rep1 : (List.replicate 13824 (Value.bool false)) = fnL 13824 fun k => .bool (cs0.full k) := fnL_rep _ _
theorem cs0_rep2 : (List.replicate 13824 (Value.int .i64 0)) = fnL 13824 fun k => .int .i64 (cs0.by_ k : Int) := fnL_rep _ _
theorem buildM_any (u : Option Addr) (p po n cu : Nat) (fs : List Ft) (uf : Option Addr) (mf cf : Nat) (off : List ByteArray) (w : World) (hl : fs.length = n) (hn : n ≤ 1048576) (hcu : n ≤ cu) (hs : ∀ f ∈ fs, f.nm.size ≤ maxLen ∧ f.on.size ≤ maxLen ∧ f.ov.size ≤ maxLen) (hu : SlG ftc 15 w u p po fs)
  (hof : off.length = mf) (hmf : mf ≤ 1048576) (hst : StAt w uf off) :
  Calls Tryz.prog 44 #[.slice u n cu, .slice uf mf cf] w (BuM fs off w u n cu) := by
 by_cases hlong : 4096 < mf
 ·have d1 : decide ((4096 : Int) < (mf : Int)) = true := dt (by omega)
  have hbu : Bu fs off 2 [] none := by unfold Bu; rw [if_pos (by omega)]; exact ⟨rfl, rfl, rfl⟩
  have HD := hide hbu;clear hu hs hbu hst;go_enter Tryz.func44, Tryz.ntmps44;go_wp2_with fail;refine bodyPost_ret (v := .tuple #[.pointer none, .int .i64 2, .slice (some ⟨w.heap.size, 0, none⟩) 0 0]) (by simp [results, Tryz.results44, go_sem]; done) rfl ?_;exact BuM.no (zu HD) (own_made w 9 w.heap.size 1 (Nat.le_refl _) _ rfl) (ba (bfl _ _) _)
 have d1 : decide ((4096 : Int) < (mf : Int)) = false := df (by omega);have HRD := hide (checkM_any u p po n cu fs w hl hn hcu hs hu);have HU := hide hu;have HL := hide hl;have HST := hide hst;have HOF := hide hof;have HLG := hide (show ¬ 4096 < off.length by omega);clear hu hl hs hst hof;go_enter Tryz.func44, Tryz.ntmps44;go_wp2_with fail;refine (zu HRD).mono ?_;rintro e W1 ⟨⟨v1, c, v3, ab, rfl, hck, hsr, hok⟩, hb⟩;have HB := hide hb;obtain ⟨ua, ca, rfl, _⟩ := own_form hsr;have HSR := hide hsr;clear hsr HRD
 by_cases hc : c = 0
 rotate_left
 ·have hc' : (c == 0) = false := by simpa using hc
  have hbu : Bu fs off c ab none := by unfold Bu; rw [if_neg (zu HLG)]; exact ⟨c, ab, hck, .inl ⟨hc, rfl, rfl, rfl⟩⟩
  have HD := hide hbu;clear hck hok hb hbu;go_wp2_with fail;refine bodyPost_ret (v := .tuple #[.pointer none, .int .i64 c, .slice ua ab.length ca]) (by simp [results, Tryz.results44, go_sem]; done) rfl ?_;exact BuM.no (zu HD) (zu HSR) (zu HB)
 subst hc;obtain ⟨hfine, rfl⟩ := hck.zero;obtain ⟨uN, cN, rfl, hna⟩ := hok rfl;rw [nms_len, zu HL];have hn30 : n ≤ 30 := by have := hfine.len; rw [zu HL] at this; exact this
 have HF := hide hfine;have HCK := hide hck;have HNA := hide hna;have HFD := hide (fun s => find_any u p po n cu fs s W1 (zu HL) hn ((zu HU).bel hb));have HSW := hide ((zu HST).bel hb);clear hck hok hb hna hfine HSR;go_wp2_with fail
 go_loopw [10] (fun z W => ∃ i : Nat, z = .int .i64 (i : Int) ∧ i ≤ mf ∧ (∀ (j : Nat) (t : ByteArray), j < i → off[j]? = some t → findN fs t ≠ none) ∧ W = W1) (fun z _ => mf - (intOf z).toNat)
 case atStart => exact ⟨0, rfl, Nat.zero_le _, fun j t h => absurd h (Nat.not_lt_zero _), rfl⟩
 case round =>
  obtain ⟨i, rfl, hi, hall, hw⟩ := hrel;subst hw;have HALL := hide hall;clear hall
  by_cases h : i < mf
  ·have iz : decide ((i : Int) < (mf : Int)) = true := dt (by omega)
   have i1 : (i : Int) < (mf : Int) := by omega
   have i0 : (0 : Int) ≤ (i : Int) := Int.natCast_nonneg _;have wi : IntKind.i64.wrap ((i : Int) + 1) = ((i + 1 : Nat) : Int) := (wrap_i (by omega) (by omega)).trans (by simp);obtain ⟨s, hx⟩ := get_some (zu HOF) h
   obtain ⟨fo, oo, rfl, _, hcs⟩ := (zu HSW) (by intro e; subst e; cases hx)
   have k0 := hcs i s hx;have HX := hide hx;have HK0 := hide k0;have HFD2 := hide (zu HFD s);clear hcs hx
   cases hq : findN fs s with
   | some q =>
    rw [findI_some hq] at HFD2;have qz : decide ((q : Int) < 0) = false := df (by omega);have HQ := hide hq;clear hq;go_wp2_with fail;refine (zu HFD2).mono ?_;rintro e W2 ⟨rfl, hw2⟩;rw [hw2];clear hw2 W2;go_wp2_with fail;go_roundw
    case rel =>
     refine ⟨i + 1, rfl, h, fun j t hj ht => ?_, by first | rfl | trivial⟩
     by_cases e : j = i
     ·subst e
      rw [zu HX] at ht
      cases ht
      rw [zu HQ];simp
     ·exact zu HALL j t (by omega) ht
    case measure => simp only [intOf]; omega
   | none =>
    rw [findI_none hq] at HFD2;have qz : decide ((-1 : Int) < 0) = true := by decide
    have hbu : Bu fs off 6 [s] none := by unfold Bu; rw [if_neg (zu HLG)]; exact ⟨0, [], zu HCK, .inr ⟨rfl, .inl ⟨i, s, zu HX, hq, zu HALL, rfl, rfl, rfl⟩⟩⟩
    have HD := hide hbu;clear hq hbu;go_wp2_with fail;refine (zu HFD2).mono ?_;rintro e W2 ⟨rfl, hw2⟩;rw [hw2];clear hw2 W2
    go_upto_region 10 with fail
    refine Go.Code.wp_mono (Only.to (fun _ _ h => h)) (bu10 HK0 (hide h) ?_);intro n4 W2 hb2 hv4 hn4
    have hE : BuM fs off w u n cu (.returned (.tuple #[.pointer none, .int .i64 6, .slice (some ⟨n4, 0, none⟩) 1 1])) W2 :=
     BuM.no (zu HD) ((show vb W2 n4 9 (strs [s]) from hv4).srow (Nat.le_trans (zu HB).size hn4) (by simp)) (bc (zu HB) hb2)
    have HE := hide hE;clear hb2 hv4 hn4 hE;go_wp2_with fail;refine bodyPost_ret (v := .tuple #[.pointer none, .int .i64 6, .slice (some ⟨n4, 0, none⟩) 1 1]) (by simp [results, Tryz.results44, go_sem]) rfl ?_;exact zu HE
  ·obtain rfl : mf = i := by omega
   have iz : decide ((mf : Int) < (mf : Int)) = false := df (by omega)
   have hallo : ∀ s ∈ off, findN fs s ≠ none := by
    intro s hs;obtain ⟨j, hj, rfl⟩ := List.getElem_of_mem hs;exact zu HALL j _ (by have := zu HOF; omega) (List.getElem?_eq_getElem hj)
   have HALO := hide hallo;clear hallo HALL HFD
   go_upto_region 11 with fail
   refine Go.Code.wp_mono (Only.to (fun _ _ h => h)) (bu11 (u := u) ?_);intro g gf gb W2 hb2 hvg hvf hvb n1 n2 n3 g1 g2 g3;rw [cs0_rep1] at hvf;rw [cs0_rep2] at hvb;have hoall : (ord (nms fs)).length = (nms fs).length := by rw [nms_len]; exact (zu HF).all
   have HOM := hide (fun W (hW : Below wr.heap.size wr W) => orderM_any uN n cN (nms fs) W (by rw [nms_len]; exact zu HL) (by omega) ((zu HNA).bel hW) (fun l h => ⟨by have := (zu HF).one.one l h; omega, by have := (zu HF).one.lt l h; rw [nms_len, zu HL] at this; exact this⟩) hoall);have HOA := hide hoall;have hmk := fun W => make_vals (P := Tryz.prog) 95 4 1 n (.bool false) rfl Tryz.underlying95 info4 (by omega) (by omega) W
   rw [← bl_nil] at hmk;have HB2 := hide hb2;have HVG := hide hvg;have HVF := hide hvf;have HVB := hide hvb;have HNE := hide (And.intro n1 (And.intro n2 n3));have HGE := hide (And.intro g1 (And.intro g2 g3));have HLT := hide (And.intro hvg.lt (And.intro hvf.lt hvb.lt));clear hb2 hvg hvf hvb n1 n2 n3 g1 g2 g3 hoall;go_wp2_with fail;clear hmk;have hbo : Below W2.heap.size W2 (W2.alloc (.cells (bl n []).toArray 4)) := ba (bfl _ _) _;refine (zu HOM _ ((zu HB2).trans (hbo.mono (zu HB2).size))).mono ?_;rintro e W3 ⟨vo, rfl, hrow, hb3⟩
   have hlo : (ord (nms fs)).length = n := by rw [(zu HF).all]; exact zu HL
   have hb23 := bc hbo hb3;have HVO := hide ((vb_new W2 4 (bl n []) W2.heap.size rfl).bel hb3);have HROW := hide hrow;have HMD := hide (show Mdm W3 W3.heap.size u n cu fs g gf gb none 0 none 0 bd0 from ⟨(zu HVG).bel hb23, ⟨(zu HVF).bel hb23, (zu HVB).bel hb23⟩, own_nil _ _ _ _, own_nil _ _ _ _⟩);have HB13 := hide ((zu HB2).trans (hb23.mono (zu HB2).size));have hsz3 : W2.heap.size + 1 ≤ W3.heap.size := by have := hb3.size; simpa using this
   have HSZ3 := hide hsz3;obtain ⟨uo, co, rfl, _⟩ := hrow.form;have HLO := hide hlo
   obtain ⟨go, hgo⟩ : ∃ q, W2.heap.size = q := ⟨_, rfl⟩
   have hlt := zu HLT;have HLT4 := hide (show g < go ∧ gf < go ∧ gb < go by rw [← hgo]; exact hlt);have HGW := hide (show wr.heap.size ≤ go by rw [← hgo]; exact (zu HB2).size);simp only [World.size_alloc] at HROW;rw [hgo] at HVO HROW HSZ3 hsz3;rw [hgo]
   obtain ⟨B, hBq⟩ : ∃ q, W3.heap.size = q := ⟨_, rfl⟩
   rw [hBq] at HMD HSZ3 hsz3;have HBQ := hide hBq;clear hbo hrow hb3 hb23 hsz3 hgo hlt hlo HOM HB2 HVG HVF HVB HLT hBq;go_wp2_with fail
   go_loopw [14] (fun z W => ∃ (i : Nat) (D : Bd) (ud : Option Addr) (cd : Nat) (uo2 : Option Addr) (co2 : Nat), z = .int .i64 (i : Int) ∧ i ≤ n ∧ vb W go 4 (bl n (mrk (nms fs) (sdB fs off) (wo (nms fs) i))) ∧ runB fs (lf fs off) (wo (nms fs) i) bd0 = .inr D ∧ Okd fs D ∧ D.done.length ≤ i ∧ Mdm W B u n cu fs g gf gb ud cd uo2 co2 D ∧ W.ownsRow (go + 1) 3 1 (.slice uo n co) n ((nats (ord (nms fs))).map (Value.int .i64)) ∧ (∀ j, (Value.slice uo n co).ownBlock = some j → j < B) ∧ Below wr.heap.size wr W ∧ B ≤ W.heap.size) (fun z _ => n - (intOf z).toNat)
   case atStart => exact ⟨0, bd0, none, 0, none, 0, rfl, Nat.zero_le _, zu HVO, rfl, Okd.zero fs, Nat.le_refl _, zu HMD, zu HROW, fun j hj => by rw [← zu HBQ]; exact (own_ge (zu HROW) j hj).2, zu HB13, Nat.le_of_eq (zu HBQ).symm⟩
   case round =>
    clear HVO HMD HROW HB13;obtain ⟨i, D, ud, cd, uo2, co2, rfl, hin, hvb, hrun, hokd, hdl, hmd, hrow, hob, hbw, hsz⟩ := hrel;rename World => W5
    have HV := hide hvb;have HRUN := hide hrun;have HOKD := hide hokd;have HDL := hide hdl;have HMD := hide hmd;have HROW := hide hrow;have HOB := hide hob;have HBW := hide hbw;have HSZ := hide hsz;clear hvb hrun hokd hdl hmd hob hsz
    by_cases h : i < n
    ·have i1 : (i : Int) < (n : Int) := by omega
     have i0 : (0 : Int) ≤ (i : Int) := Int.natCast_nonneg _;have iz : decide ((i : Int) < (n : Int)) = true := dt i1;have wi : IntKind.i64.wrap ((i : Int) + 1) = ((i + 1 : Nat) : Int) := (wrap_i (by omega) (by omega)).trans (by simp);have hnl : (nms fs).length = n := by rw [nms_len]; exact zu HL
     obtain ⟨k, hk⟩ := wo_next (zu HOA) (show i < (nms fs).length by omega) (wo_full (zu HOA) i (by omega));obtain ⟨k1, k2, k3, _⟩ := ff_some hk;rw [hnl] at k1;have hoi := ord_at (zu HOA) (by omega) hk;obtain ⟨u8, c8, e8, _, _, h8⟩ := own_form hrow
     injection e8 with e9 e10 e11
     subst e9;subst e11;obtain ⟨gq, rfl, hgq, _, hqc⟩ := h8 (by omega);have b0 := hqc i (.int .i64 (k : Int)) (by rw [List.getElem?_map, nats_at hoi]; rfl);obtain ⟨f, hx⟩ := get_some (zu HL) k1;obtain ⟨l, hxl⟩ := get_some hnl k1;have hll : l.length ≤ 1 := (zu HF).one.one l (List.mem_of_getElem? hxl);have hgd : (nms fs).getD k [] = l := by rw [List.getD_eq_getElem?_getD, hxl]; rfl
     rw [hgd] at k3;have hws : mrk (nms fs) (sdB fs off) (wo (nms fs) (i + 1)) = mgo (nms fs) (sdB fs off) (mrk (nms fs) (sdB fs off) (wo (nms fs) i)) k := by rw [wo_some hk, mrk_snoc]
     have hmk' : (mrk (nms fs) (sdB fs off) (wo (nms fs) i)).contains k = false := by
      have h1 := (marks_one (zu HF).one ((List.range n).filter fun k => sdB fs off k) (sdB fs off) (fun k hk => by rw [Bool.eq_iff_iff]; simp; omega) i).1
      cases e : (mrk (nms fs) (sdB fs off) (wo (nms fs) i)).contains k with
      | false => rfl
      | true => exact (k2 (h1 k (by simpa using e))).elim
     have hlf := lf_at (off := off) (show i < (nms fs).length by omega) hk;have hrs := fun L => runB_snoc fs L (wo (nms fs) i) k bd0
     have hws2 : wo (nms fs) (i + 1) = wo (nms fs) i ++ [k] := wo_some hk;have hgdf : fs.getD k ft0 = f := getD_at hx;have hsd : sdB fs off k = hasT off f.nm := by unfold sdB; rw [hgdf]
     generalize mrk (nms fs) (sdB fs off) (wo (nms fs) i) = M at *
     obtain ⟨gn, on, hun, hgn, hcls⟩ := (zu HNA) (by intro e; rw [e] at hxl; cases hxl)
     subst hun;obtain ⟨vx, hvx, xv, xc, rfl, hxv⟩ := hcls k l hxl;have HCX : Hid (∀ W, Below wr.heap.size wr W → W.cell? ⟨gn, on + k, none⟩ = some (.slice xv l.length xc)) := hide (fun W hb => (hb.cell (p := ⟨gn, on + k, none⟩) hgn).trans hvx)
     have HIX : Hid (l ≠ [] → ∃ b o, xv = some ⟨b, o, none⟩ ∧ ∀ W, Below wr.heap.size wr W → ∀ (t y : Nat), l[t]? = some y → W.cell? ⟨b, o + t, none⟩ = some (.int .i64 (y : Int))) := hide (fun h0 => by
      obtain ⟨b, o, e, hb, hI⟩ := hxv h0
      exact ⟨b, o, e, fun W hw t y ht => (hI.below hw hb) t _ (nats_at ht)⟩)
     obtain ⟨rfl, n0, _⟩ := ((zu HU).bel (bc (zu HB) hbw)).at15 hx;have kk1 : (k : Int) < (n : Int) := by omega
     have kk0 : (0 : Int) ≤ (k : Int) := Int.natCast_nonneg _;have HHA := hide (has_any uf mf cf off f.nm W5 (zu HOF) hmf ((zu HSW).bel hbw));have HV1 := hide ((zu HV).set k (.bool (sdB fs off k)));rw [m1_set k1 hmk'] at HV1;have fz : ∀ z, W5.frozen? ⟨go, z, none⟩ = false := (zu HV).frozen;have dk := (zu HV).cell (bl_at (o := M) k1);have HGD := hide hgd;have HWS := hide hws;have HMK := hide hmk';have HK2 := hide k2;have HK3 := hide k3;have HLF := hide hlf;have HRS := hide hrs;have HW2 := hide hws2;have HXF := hide hx;have HHK := hide hk
     clear hk k2 k3 hoi h8 hqc hx hxl hgd hws hmk' hcls hvx hxv hlf hrs hws2 hgdf hrow;generalize hsq : sdB fs off k = sq at *;have HSQ := hide hsq;rw [← hsd] at HHA;have HGO := hide (show go ≠ g ∧ go ≠ gf ∧ go ≠ gb ∧ go < B by have := zu HLT4; have := zu HSZ3; omega);have HM1 := hide ((zu HMD).set (zu HGO).1 (zu HGO).2.1 (zu HGO).2.2.1 (zu HGO).2.2.2 k (.bool sq));have HR1 := hide (own_kept (zu HROW) (w' := W5.setCell ⟨go, k, none⟩ (.bool sq)) (fun j hj => Below.heap_setCell _ _ _ _ (by have := (own_ge (zu HROW) j hj).1; show j ≠ go; omega)))
     have HB1 := hide (Below.setCell (zu HBW) (p := ⟨go, k, none⟩) (zu HGW) (.bool sq));have HS1 := hide (show B ≤ (W5.setCell ⟨go, k, none⟩ (.bool sq)).heap.size by simpa [World.setCell] using zu HSZ);have HKN := hide k1;clear hsq hsd hbw HV HMD HROW;go_wp2_with fail;refine (zu HHA).mono ?_;rintro e W6 ⟨rfl, hw6⟩;rw [hw6];clear hw6 W6 HHA;go_wp2_with fail;generalize W5.setCell ⟨go, k, none⟩ (.bool sq) = W6 at *;clear b0 n0 dk fz;have hcx := zu HCX _ (zu HB1);have HNIL := hide (fun (e : l = []) => mgo_nil (nm := nms fs) (sd := sdB fs off) (M := M) (k := k) (by rw [zu HGD, e]))
     go_loopw [16] (fun z W => ∃ t : Nat, z = .int .i64 (t : Int) ∧ t ≤ l.length ∧ vb W go 4 (bl n (if t = l.length then mgo (nms fs) (sdB fs off) M k else m1 M sq k)) ∧ Mdm W B (some ⟨p, po, none⟩) n cu fs g gf gb ud cd uo2 co2 D ∧ W.ownsRow (go + 1) 3 1 (.slice (some ⟨gq, 0, none⟩) n co) n ((nats (ord (nms fs))).map (Value.int .i64)) ∧ Below wr.heap.size wr W ∧ B ≤ W.heap.size) (fun z _ => l.length - (intOf z).toNat)
     case atStart =>
      refine ⟨0, rfl, Nat.zero_le _, ?_, zu HM1, zu HR1, zu HB1, zu HS1⟩
      by_cases e : l = []
      ·rw [if_pos (by rw [e]; rfl), ← zu HNIL e, zu HSQ]
       exact zu HV1
      ·rw [if_neg (by intro h0; exact e (List.eq_nil_of_length_eq_zero h0.symm))]
       exact zu HV1
     case round =>
      clear HM1 HR1 HB1 HS1 HV1 hcx;obtain ⟨t, rfl, htl, hvt, hmt, hrt, hbt, hst⟩ := hrel;rename World => W7
      have HVT := hide hvt;have HMT := hide hmt;have HRT := hide hrt;have HBT := hide hbt;have HST := hide hst;have hcx := zu HCX _ hbt
      by_cases h7 : t < l.length
      ·have tz : decide ((t : Int) < (l.length : Int)) = true := dt (by omega)
       obtain rfl : t = 0 := by omega
       match l, hll, h7 with
       | [y], _, _ =>
        have hyk : y ≠ k := fun e => zu HK2 (by have := zu HK3 y (by simp); rw [e] at this; exact this)
        have hyn : y < n := by have := wo_lt (nms fs) i y (zu HK3 y (by simp)); rw [nms_len, zu HL] at this; exact this
        obtain ⟨bx, qx, rfl, hcell⟩ := zu HIX (by simp);have r2 := hcell _ (zu HBT) 0 y rfl;have y1 : (y : Int) < (n : Int) := by omega
        have y0 : (0 : Int) ≤ (y : Int) := Int.natCast_nonneg _;rw [if_neg (by simp)] at hvt;have HVT0 := hide hvt;have dk := hvt.cell (bl_at (zu HKN));have dy := hvt.cell (bl_at hyn);have fz : ∀ z, W7.frozen? ⟨go, z, none⟩ = false := hvt.frozen;have HV2 := hide (hvt.set k (.bool ((m1 M sq k).contains k || (m1 M sq k).contains y)));rw [lup_one (zu HKN)] at HV2;have e9 := mgo_bl (n := n) (nm := nms fs) (sd := sdB fs off) (zu HMK) hyk (zu HGD);simp only [zu HSQ] at e9;rw [e9] at HV2;have HM3 := fun x => hide ((zu HMT).set (zu HGO).1 (zu HGO).2.1 (zu HGO).2.2.1 (zu HGO).2.2.2 k (.bool x))
        have HR3 := fun x => hide (own_kept (zu HRT) (w' := W7.setCell ⟨go, k, none⟩ (.bool x)) (fun j hj => Below.heap_setCell _ _ _ _ (by have := (own_ge (zu HRT) j hj).1; show j ≠ go; omega)))
        simp only [List.length_singleton, Nat.add_zero] at hcx r2;clear hcell e9 hvt hmt hrt hbt hst HVT;generalize (m1 M sq k).contains k = bk at *;generalize (m1 M sq k).contains y = by' at *
        cases bk
        ·go_wp2_with fail
         go_roundw
         case rel => exact ⟨1, rfl, Nat.le_refl _, by rw [if_pos (show 1 = [y].length from rfl)]; exact zu HV2, zu (HM3 _), zu (HR3 _), Below.setCell (zu HBT) (zu HGW) _, by simpa [World.setCell] using zu HST⟩
         case measure => simp [intOf]
        ·go_wp2_with fail
         go_roundw
         case rel => exact ⟨1, rfl, Nat.le_refl _, by rw [if_pos (show 1 = [y].length from rfl)]; exact zu HV2, zu (HM3 _), zu (HR3 _), Below.setCell (zu HBT) (zu HGW) _, by simpa [World.setCell] using zu HST⟩
         case measure => simp [intOf]
      ·obtain rfl : t = l.length := by omega
       have tz : decide ((l.length : Int) < (l.length : Int)) = false := df (by omega);rw [if_pos rfl] at hvt;have HVT := hide hvt;have dg := hvt.cell (bl_at (o := mgo (nms fs) (sdB fs off) M k) k1);rw [zu HLF] at dg;clear hvt hmt hrt hbt hst
       cases hlfk : lf fs off k with
       | true =>
        rw [hlfk] at dg
        have hr1 : runB fs (lf fs off) (wo (nms fs) (i + 1)) bd0 = .inr D := by
         rw [zu HW2, zu HRS, zu HRUN];simp only;rw [if_pos hlfk]
        have HR9 := hide hr1;clear hr1 hlfk;go_wp2_with fail;go_roundw
        case rel => exact ⟨i + 1, D, ud, cd, uo2, co2, by simp, h, by rw [zu HWS]; exact zu HVT, zu HR9, zu HOKD, Nat.le_succ_of_le (zu HDL), zu HMT, zu HRT, zu HOB, zu HBT, zu HST⟩
        case measure => simp only [intOf]; omega
       | false =>
        rw [hlfk] at dg;have hwb : Below w.heap.size w W7 := bc (zu HB) (zu HBT);have hne := zu HNE;have hlt4 := zu HLT4;have hsz3 := zu HSZ3;have HDO := hide (doM_any B (some ⟨p, po, none⟩) p po n cu fs g gf gb ud cd uo2 co2 D k f W7 (zu HL) (zu HF) ((zu HU).bel hwb) (zu HXF) (zu HOKD) (by have := zu HDL; omega) (zu HMT) (zu HST) (by omega) (by omega) (by omega) hne.1 hne.2.1 hne.2.2);have HWB := hide hwb;have HNF := hide (show ¬ lf fs off k = true by rw [hlfk]; simp);unfold DoAns at HDO;clear hlfk hwb hne hlt4 hsz3
        cases hd : doF fs D k with
        | inl x =>
         rw [hd] at HDO;have hx0 := doF_code hd;have hc0 : (x.1 == 0) = false := by simpa using hx0
         have hrun2 : runB fs (lf fs off) (ord (nms fs)) bd0 = .inl x := by
          obtain ⟨T, hT⟩ := ord_split (nm := nms fs) (i := i + 1) (by omega);rw [hT, runB_app, zu HW2, zu HRS, zu HRUN];simp only;rw [if_neg (zu HNF), hd]
         have hbu : Bu fs off x.1 x.2 none := by
          unfold Bu;rw [if_neg (zu HLG)];exact ⟨0, [], zu HCK, .inr ⟨rfl, .inr ⟨zu HALO, .inl ⟨x, hrun2, rfl, rfl, rfl⟩⟩⟩⟩
         have HD := hide hbu;obtain ⟨xc, xa⟩ := x;simp only at hc0 HDO HD;clear hd hx0 hrun2 hbu;go_wp2_with fail;refine (zu HDO).mono ?_;rintro e W8 ⟨⟨v, rfl, hv⟩, hb8⟩;obtain ⟨ux, cx, rfl, _⟩ := own_form hv;have hE : BuM fs off w (some ⟨p, po, none⟩) n cu (.returned (.tuple #[.pointer none, .int .i64 xc, .slice ux xa.length cx])) W8 := BuM.no (zu HD) (hv.mono (zu HWB).size) (bc (zu HWB) hb8);have HE := hide hE;clear hv hb8 hE dg;go_wp2_with fail;refine bodyPost_ret (v := .tuple #[.pointer none, .int .i64 xc, .slice ux xa.length cx]) (by simp [results, Tryz.results44, go_sem]) rfl ?_
         exact zu HE
        | inr D' =>
         rw [hd] at HDO
         have hr1 : runB fs (lf fs off) (wo (nms fs) (i + 1)) bd0 = .inr D' := by
          rw [zu HW2, zu HRS, zu HRUN];simp only;rw [if_neg (zu HNF), hd]
         have HR9 := hide hr1;have HOK9 := hide ((zu HOKD).do_ (zu HF) (by have := zu HL; have := zu HKN; omega) hd);have HDL9 := hide (doF_len hd);simp only at HDO;clear hd hr1;go_wp2_with fail;refine (zu HDO).mono ?_;rintro e W8 ⟨⟨v, rfl, hv⟩, ⟨ud9, cd9, uo9, co9, hm9⟩, ht9⟩;obtain ⟨ux, cx, rfl, _⟩ := own_form hv;have HGO9 := zu HGO;have HV9 := hide ((ht9.block go HGO9.2.2.2 HGO9.1 HGO9.2.1 HGO9.2.2.1).trans (zu HVT))
         have HRW9 := hide (own_kept (zu HRT) (fun j hj => by
          have h1 := (own_ge (zu HRT) j hj).1;have h2 := zu HOB j hj;have h3 := zu HLT4
          exact ht9.block j h2 (by omega) (by omega) (by omega)))
         have HB9 := hide ((zu HBT).trans (ht9.below (zu HGE).1 (zu HGE).2.1 (zu HGE).2.2 (by have := zu HGW; omega)));have HM9 := hide hm9;have HS9 := hide (Nat.le_trans (zu HST) ht9.size);clear hv hm9 ht9 HGO9 dg;go_wp2_with fail;go_roundw
         case rel => exact ⟨i + 1, D', ud9, cd9, uo9, co9, by simp, h, by rw [zu HWS]; exact zu HV9, zu HR9, zu HOK9, by rw [zu HDL9]; have := zu HDL; omega, zu HM9, zu HRW9, zu HOB, zu HB9, zu HS9⟩
         case measure => simp only [intOf]; omega
    ·obtain rfl : n = i := by omega
     have iz : decide ((n : Int) < (n : Int)) = false := df (by omega);have hord : wo (nms fs) n = ord (nms fs) := by unfold ord; rw [nms_len, zu HL]
     rw [hord] at HRUN
     have hbu : Bu fs off 0 [] (some D) := by
      unfold Bu;rw [if_neg (zu HLG)];exact ⟨0, [], zu HCK, .inr ⟨rfl, .inr ⟨zu HALO, .inr ⟨D, zu HRUN, rfl, rfl, rfl⟩⟩⟩⟩
     have HD := hide hbu;have HBE := hide (bc (zu HB) hbw);clear hord hbu hrow hbw;go_wp2_with fail;refine bodyPost_ret (v := .tuple #[.pointer (some ⟨g, 0, none⟩), .int .i64 0, .slice (some ⟨W5.heap.size, 0, none⟩) 0 0]) (by simp [results, Tryz.results44, go_sem]) rfl ?_;have hge := zu HGE;have hbs := (zu HB).size;have hlt4 := zu HLT4;have hsz3 := zu HSZ3;have hszB := zu HSZ;refine ⟨⟨0, [], some D, _, _, rfl, zu HD, own_made W5 9 _ 1 (zu HBE).size _ rfl, fun D' e => ?_⟩, ba (zu HBE) _⟩
     cases e
     exact ⟨zu HF, zu HOKD, by have := zu HDL; omega, g, gf, gb, B, ud, cd, uo2, co2, rfl, (zu HMD).bel (ba (bfl _ _) _), ⟨by omega, by omega, by omega⟩, ⟨by omega, by omega, by omega, by simp; omega⟩, zu HNE⟩
open Go.ChangeShapes Go.WideShapes Go.ChangeAt Go.RowKit
def sgB (b : Bool) : Int := if b then 35 else 46
def rowL (c : Cs) (y z : Nat) : List Int := (List.range 24).map fun x => sgB (c.full (at3 x y z))
def txB (L : List Int) : ByteArray := ⟨(L.map fun x => UInt8.ofNat x.toNat).toArray⟩
def sect (c : Cs) (z : Nat) : List ByteArray := (List.range 24).map fun y => txB (rowL c y z)
theorem rowL_len (c : Cs) (y z : Nat) : (rowL c y z).length = 24 := by simp [rowL]
theorem rowL_at (c : Cs) (y z : Nat) {x : Nat} (h : x < 24) : (rowL c y z)[x]? = some (sgB (c.full (at3 x y z))) := by simp [rowL, h]
theorem sect_len (c : Cs) (z : Nat) : (sect c z).length = 24 := by simp [sect]
theorem sect_at (c : Cs) (z : Nat) {y : Nat} (h : y < 24) : (sect c z)[y]? = some (txB (rowL c y z)) := by simp [sect, h]
theorem sect_take (c : Cs) (z : Nat) {y : Nat} (h : y < 24) : (sect c z).take (y + 1) = (sect c z).take y ++ [txB (rowL c y z)] := by rw [List.take_add_one, sect_at c z h]; rfl
theorem sect_all (c : Cs) (z : Nat) : (sect c z).take 24 = sect c z := List.take_of_length_le (by rw [sect_len]; exact Nat.le_refl _)
theorem info5 : (Tryz.prog.info? 5).map (fun i => (i.zero, i.size, i.bytes)) = some (some (.int .u8 0), 1, 1) := by kernel_rfl
theorem fold_tx (L : List Int) (r : ByteArray) : L.foldl (fun r n => r.push (UInt8.ofNat n.toNat)) r = ⟨r.data ++ (L.map fun x => UInt8.ofNat x.toNat).toArray⟩ := by
 induction L generalizing r with
 | nil => simp
 | cons x L ih =>
  rw [List.foldl_cons, ih]
  congr 1
  simp [ByteArray.push]
theorem conv_tx (W : World) (p po n c : Nat) (L : List Int) (hl : L.length = n) (h : ∀ (j : Nat) (x : Int), L[j]? = some x → W.cell? ⟨p, po + j, none⟩ = some (.int .u8 x)) :
  (convert 93 9 (.slice (some ⟨p, po, none⟩) n c)).run Tryz.prog W = .ok (.string (txB L)) W := by
 rw [run_convert_bytes_string W 93 9 5 _ n c Tryz.underlying93 Tryz.underlying5 Tryz.underlying9]
 have hld : (loadCells ⟨p, po, none⟩ n).run Tryz.prog W = .ok (L.map (Value.int .u8)).toArray W := by
  have := run_loadCells_list (P := Tryz.prog) W ⟨p, po, none⟩ (L.map (Value.int .u8)) (fun j v hv => by
   rw [add_none];rw [List.getElem?_map] at hv
   cases hx : L[j]? with
   | none => rw [hx] at hv; cases hv
   | some x => rw [hx] at hv; cases hv; exact h j x hx)
  rw [List.length_map, hl] at this;exact this
 rw [run_bytesToString W ⟨p, po, none⟩ n c L hld];rw [fold_tx]
 congr 2
 simp [txB]
theorem runB_code {fs : List Ft} {L : Nat → Bool} : ∀ (l : List Nat) (B : Bd) {x : Int × List ByteArray}, runB fs L l B = .inl x → x.1 ≠ 0
 | [], B, x, h => by cases h
 | k :: l, B, x, h => by
  have h' : (if L k = true then runB fs L l B else match doF fs B k with | .inl x => .inl x | .inr B' => runB fs L l B') = .inl x := h
  by_cases e : L k = true
  ·rw [if_pos e] at h'
   exact runB_code l B h'
  ·rw [if_neg e] at h'
   cases hd : doF fs B k with
   | inl y => rw [hd] at h'; cases h'; exact doF_code hd
   | inr B' => rw [hd] at h'; exact runB_code l B' h'
theorem Bu.zero {fs : List Ft} {off ab : List ByteArray} {D : Option Bd} (h : Bu fs off 0 ab D) : ∃ D', D = some D' := by
 unfold Bu at h
 split at h
 ·exact absurd h.1 (by decide)
 ·obtain ⟨c0, ab0, _, ⟨h1, h2, _⟩ | ⟨_, ⟨i, s, _, _, _, h2, _⟩ | ⟨_, ⟨x, hx, h2, _⟩ | ⟨B, _, _, _, rfl⟩⟩⟩⟩ := h
  ·exact absurd h2.symm h1
  ·exact absurd h2 (by decide)
  ·exact absurd h2.symm (runB_code _ _ hx)
  ·exact ⟨B, rfl⟩
def ScAns (fs : List Ft) (off : List ByteArray) (z : Int) (c : Int) (rows : List ByteArray) : Prop :=
 ∃ cb ab D, Bu fs off cb ab D ∧ ((cb ≠ 0 ∧ c = cb ∧ rows = []) ∨ (cb = 0 ∧ ¬ (0 ≤ z ∧ z ≤ 23) ∧ c = 5 ∧ rows = []) ∨ (cb = 0 ∧ (0 ≤ z ∧ z ≤ 23) ∧ c = 0 ∧ ∃ D', D = some D' ∧ rows = sect D'.cs z.toNat))
theorem ScAns.len {fs : List Ft} {off : List ByteArray} {z c : Int} {rows : List ByteArray} (h : ScAns fs off z c rows) : rows.length ≤ 4096 := by
 obtain ⟨cb, ab, D, _, ⟨_, _, rfl⟩ | ⟨_, _, _, rfl⟩ | ⟨_, _, _, D', _, rfl⟩⟩ := h
 ·simp
 ·simp
 ·rw [sect_len]; omega
theorem ScAns.uniq {fs : List Ft} {off : List ByteArray} {z c c' : Int} {rows rows' : List ByteArray} (h : ScAns fs off z c rows) (k : ScAns fs off z c' rows') : c = c' ∧ rows = rows' := by
 obtain ⟨cb, ab, D, hb, h⟩ := h;obtain ⟨cb', ab', D', hb', k⟩ := k;obtain ⟨rfl, rfl, rfl⟩ := hb.uniq hb'
 rcases h with ⟨h1, rfl, rfl⟩ | ⟨h1, h2, rfl, rfl⟩ | ⟨h1, h2, rfl, E, rfl, rfl⟩
 ·rcases k with ⟨k1, rfl, rfl⟩ | ⟨k1, _⟩ | ⟨k1, _⟩
  ·exact ⟨rfl, rfl⟩
  ·exact (h1 k1).elim
  ·exact (h1 k1).elim
 ·rcases k with ⟨k1, _⟩ | ⟨k1, k2, rfl, rfl⟩ | ⟨k1, k2, _⟩
  ·exact (k1 h1).elim
  ·exact ⟨rfl, rfl⟩
  ·exact (h2 k2).elim
 ·rcases k with ⟨k1, _⟩ | ⟨k1, k2, _⟩ | ⟨k1, k2, rfl, E', e, rfl⟩
  ·exact (k1 h1).elim
  ·exact (k2 h2).elim
  ·cases e
   exact ⟨rfl, rfl⟩
end Go.Proofs.YtkiplmabjeadgaaGreat
