/- The marks that ranges over functions leave are taken at a function's end. -/
import Derived.Test.YtkiplmabjeadgaaGreatBpDrR
import Derived.Deep.RegionLaw
import Derived.Test.YtkiplmabjeadgaaGreatPlXR
namespace Go.Proofs.YtkiplmabjeadgaaGreat
set_option maxRecDepth 100000
set_option maxHeartbeats 16000000
open Go.ChangeShapes Go.WideShapes Go.ChangeAt Go.RowKit
set_option linter.unusedVariables false
set_option linter.unusedSimpArgs false
theorem info189 : (Tryz.prog.info? 189).map (fun i => (i.zero,i.size,i.bytes)) = some (some .nilIface,1,16):=by kernel_rfl
theorem pd1 {s0 s4 s5 s6 s7 s8 s9 s10 s11 s12 s13 s14 s15 s16 s17 s18 s19 s20 s21 s22 s23 s24 s25 s26 s27 s28 s29 s30 s31 s32 s33 s34 s35 s36 s37 s38 s39 s40 s41 s42 s43 s44 s45 s46 s47 s48 s49 s50 s51 s52 s53 s54 s55 s56 s57 s58 s59 s60 s61 s62 s63 s64 s65 s66 s67 s68 s69 s70 s71 s72 s73 s74 s75 : Value} {g b3 B n co : Nat} {nm : ByteArray} {kv sc vw vm : Value} {uo : Option Addr} {ol : List ByteArray} {V : World} {K_ : Act → World → Prop}
  (HG : Hid (vb V g 84 [sc,.slice uo n co,vw,vm])) (H3 : Hid (vb V b3 77 [.pointer (some ⟨g,0,none⟩)])) (HR : Hid (V.ownsRow B 9 1 (.slice uo n co) n (strs ol))) (hg : g < B) (hB : B ≤ V.heap.size) (hn : n ≤ 900) (h3 : (Value.slice uo n co).ownBlock ≠ some b3)
  (hQ : ∀ (tA tB : Value) (W0 w9 : World),Below V.heap.size V W0 → W0.grownBy w9 (Value.slice uo n co).ownBlock → w9.ownsRow B 9 1 tB (n + 1) (strs ol ++ [.string nm]) → K_ { tmps:=#[s0,.string nm,kv,.pointer (some ⟨b3,0,none⟩),s4,s5,s6,s7,s8,s9,s10,.pointer (some ⟨g,0,none⟩),.pointer (some ⟨g,0,none⟩),.pointer (some ⟨g,0,none⟩),.pointer (some ⟨g,1,none⟩),.slice uo n co,.string nm,tA,tB,.pointer (some ⟨g,0,none⟩),.pointer (some ⟨g,1,none⟩),s21,s22,s23,s24,s25,s26,s27,s28,s29,s30,s31,s32,s33,s34,s35,s36,s37,s38,s39,s40,s41,s42,s43,s44,s45,s46,s47,s48,s49,s50,s51,s52,s53,s54,s55,s56,s57,s58,s59,s60,s61,s62,s63,s64,s65,s66,s67,s68,s69,s70,s71,s72,s73,s74,s75],defers:=[] } (w9.setCell ⟨g,1,none⟩ tB)) :
  Go.Code.wp Tryz.prog (rg118 1) (Only K_) { tmps:=#[s0,.string nm,kv,.pointer (some ⟨b3,0,none⟩),s4,s5,s6,s7,s8,s9,s10,s11,s12,s13,s14,s15,s16,s17,s18,s19,s20,s21,s22,s23,s24,s25,s26,s27,s28,s29,s30,s31,s32,s33,s34,s35,s36,s37,s38,s39,s40,s41,s42,s43,s44,s45,s46,s47,s48,s49,s50,s51,s52,s53,s54,s55,s56,s57,s58,s59,s60,s61,s62,s63,s64,s65,s66,s67,s68,s69,s70,s71,s72,s73,s74,s75],defers:=[] } V:=by
 have HK:=hide hQ;clear hQ
 conv => arg 2;whnf
 have k4:=(zu HG).cell (m:=1) rfl;have n0:=(zu H3).cell (m:=0) rfl;have hgs:=(zu HG).lt;have hns:=(zu H3).lt;have HNE:=hide (fun e : (Value.slice uo n co).ownBlock = some g => Nat.not_lt.2 (own_ge (zu HR) g e).1 hg);have HN3:=hide h3;clear h3;obtain ⟨iT,ht,hy0,hy1,hy2⟩:=info_parts info9
 go_region_law
  (refine step_own (by rfl) (.tmp 15) (.tmp 17) 23 (by rfl) B 9 iT _ 1 16 Tryz.underlying23 ht hy0 hy1 hy2 rfl (by omega) (.slice uo n co) n (strs ol) (by rfl) (own_bel (zu HR) (by repeat (first | exact bfl _ _ | refine ba ?_ _ | refine Below.drew ?_)))
      ⟨V.heap.size,0,none⟩ 1 1 [.string nm] (by rfl) (by rfl) (by first | exact news_cells _ _ rfl | exact news_cells _ _ (by simp) | exact news_drew _ _ (by simp)) (strs_one _) (by unfold maxLen;omega) (by omega) (by first | omega | (simp;omega)) ?_;intro vo9 w9 hown9 hgrow9 hvn;obtain ⟨uo9,co9,rfl,_⟩:=own_form hown9;have HG9:=hide ((hgrow9.block g (Nat.lt_of_lt_of_le hgs (Below.size (B:=V.heap.size) (by repeat (first | exact bfl _ _ | refine ba ?_ _ | refine Below.drew ?_)))) (fun e => zu HNE e.symm)).trans ((zu HG).bel (by repeat (first | exact bfl _ _ | refine ba ?_ _ | refine Below.drew ?_))));have H39:=hide ((hgrow9.block b3 (Nat.lt_of_lt_of_le hns (Below.size (B:=V.heap.size) (by repeat (first | exact bfl _ _ | refine ba ?_ _ | refine Below.drew ?_)))) (fun e => zu HN3 e.symm)).trans ((zu H3).bel (by repeat (first | exact bfl _ _ | refine ba ?_ _ | refine Below.drew ?_))));have e4:=vb.cell (show vb w9 g 84 [sc,.slice uo n co,vw,vm] from zu HG9) (m:=1) rfl;have ez:=vb.frozen (show vb w9 g 84 [sc,.slice uo n co,vw,vm] from zu HG9);have e3:=vb.cell (show vb w9 b3 77 [.pointer (some ⟨g,0,none⟩)] from zu H39) (m:=0) rfl;have HGW:=hide hgrow9;have HO9:=hide hown9;clear hgrow9 hown9 hvn)
 all_goals
  exact zu HK _ _ _ _ (by repeat (first | exact bfl _ _ | refine ba ?_ _ | refine Below.drew ?_)) (zu HGW) (zu HO9)
theorem pd2 {s0 s4 s5 s6 s7 s8 s9 s10 s11 s12 s13 s14 s15 s16 s17 s18 s19 s20 s21 s22 s23 s24 s25 s26 s27 s28 s29 s30 s31 s32 s33 s34 s35 s36 s37 s38 s39 s40 s41 s42 s43 s44 s45 s46 s47 s48 s49 s50 s51 s52 s53 s54 s55 s56 s57 s58 s59 s60 s61 s62 s63 s64 s65 s66 s67 s68 s69 s70 s71 s72 s73 s74 s75 : Value} {g b3 B n co : Nat} {nm : ByteArray} {sc vd vm : Value} {uo : Option Addr} {ol : List Value} {tk : Nat} {xk : Value} {V : World} {K_ : Act → World → Prop}
  (HG : Hid (vb V g 84 [sc,vd,.slice uo n co,vm])) (H3 : Hid (vb V b3 77 [.pointer (some ⟨g,0,none⟩)])) (HR : Hid (V.ownsRow B 189 1 (.slice uo n co) n (ol))) (hg : g < B) (hB : B ≤ V.heap.size) (hn : n ≤ 900) (h3 : (Value.slice uo n co).ownBlock ≠ some b3) (one_kv : ∀ u ∈ [(Value.iface tk xk)],u.oneCell' = true)
  (hQ : ∀ (tA tB : Value) (W0 w9 : World),Below V.heap.size V W0 → W0.grownBy w9 (Value.slice uo n co).ownBlock → w9.ownsRow B 189 1 tB (n + 1) (ol ++ [(Value.iface tk xk)]) → K_ { tmps:=#[s0,.string nm,(Value.iface tk xk),.pointer (some ⟨b3,0,none⟩),s4,s5,s6,s7,s8,s9,s10,s11,s12,s13,s14,s15,s16,s17,s18,s19,s20,.pointer (some ⟨g,0,none⟩),.pointer (some ⟨g,0,none⟩),.pointer (some ⟨g,0,none⟩),.pointer (some ⟨g,2,none⟩),.slice uo n co,(Value.iface tk xk),tA,tB,.pointer (some ⟨g,0,none⟩),.pointer (some ⟨g,2,none⟩),s31,s32,s33,s34,s35,s36,s37,s38,s39,s40,s41,s42,s43,s44,s45,s46,s47,s48,s49,s50,s51,s52,s53,s54,s55,s56,s57,s58,s59,s60,s61,s62,s63,s64,s65,s66,s67,s68,s69,s70,s71,s72,s73,s74,s75],defers:=[] } (w9.setCell ⟨g,2,none⟩ tB)) :
  Go.Code.wp Tryz.prog (rg118 2) (Only K_) { tmps:=#[s0,.string nm,(Value.iface tk xk),.pointer (some ⟨b3,0,none⟩),s4,s5,s6,s7,s8,s9,s10,s11,s12,s13,s14,s15,s16,s17,s18,s19,s20,s21,s22,s23,s24,s25,s26,s27,s28,s29,s30,s31,s32,s33,s34,s35,s36,s37,s38,s39,s40,s41,s42,s43,s44,s45,s46,s47,s48,s49,s50,s51,s52,s53,s54,s55,s56,s57,s58,s59,s60,s61,s62,s63,s64,s65,s66,s67,s68,s69,s70,s71,s72,s73,s74,s75],defers:=[] } V:=by
 have HK:=hide hQ;clear hQ
 conv => arg 2;whnf
 have k4:=(zu HG).cell (m:=2) rfl;have n0:=(zu H3).cell (m:=0) rfl;have hgs:=(zu HG).lt;have hns:=(zu H3).lt;have HNE:=hide (fun e : (Value.slice uo n co).ownBlock = some g => Nat.not_lt.2 (own_ge (zu HR) g e).1 hg);have HN3:=hide h3;clear h3;obtain ⟨iT,ht,hy0,hy1,hy2⟩:=info_parts info189
 go_region_law
  (refine step_own (by rfl) (.tmp 25) (.tmp 27) 81 (by rfl) B 189 iT _ 1 16 Tryz.underlying81 ht hy0 hy1 hy2 rfl (by omega) (.slice uo n co) n (ol) (by rfl) (own_bel (zu HR) (by repeat (first | exact bfl _ _ | refine ba ?_ _ | refine Below.drew ?_)))
      ⟨V.heap.size,0,none⟩ 1 1 [(Value.iface tk xk)] (by rfl) (by rfl) (by first | exact news_cells _ _ rfl | exact news_cells _ _ (by simp) | exact news_drew _ _ (by simp)) (one_kv) (by unfold maxLen;omega) (by omega) (by first | omega | (simp;omega)) ?_;intro vo9 w9 hown9 hgrow9 hvn;obtain ⟨uo9,co9,rfl,_⟩:=own_form hown9;have HG9:=hide ((hgrow9.block g (Nat.lt_of_lt_of_le hgs (Below.size (B:=V.heap.size) (by repeat (first | exact bfl _ _ | refine ba ?_ _ | refine Below.drew ?_)))) (fun e => zu HNE e.symm)).trans ((zu HG).bel (by repeat (first | exact bfl _ _ | refine ba ?_ _ | refine Below.drew ?_))));have H39:=hide ((hgrow9.block b3 (Nat.lt_of_lt_of_le hns (Below.size (B:=V.heap.size) (by repeat (first | exact bfl _ _ | refine ba ?_ _ | refine Below.drew ?_)))) (fun e => zu HN3 e.symm)).trans ((zu H3).bel (by repeat (first | exact bfl _ _ | refine ba ?_ _ | refine Below.drew ?_))));have e4:=vb.cell (show vb w9 g 84 [sc,vd,.slice uo n co,vm] from zu HG9) (m:=2) rfl;have ez:=vb.frozen (show vb w9 g 84 [sc,vd,.slice uo n co,vm] from zu HG9);have e3:=vb.cell (show vb w9 b3 77 [.pointer (some ⟨g,0,none⟩)] from zu H39) (m:=0) rfl;have HGW:=hide hgrow9;have HO9:=hide hown9;clear hgrow9 hown9 hvn)
 all_goals
  exact zu HK _ _ _ _ (by repeat (first | exact bfl _ _ | refine ba ?_ _ | refine Below.drew ?_)) (zu HGW) (zu HO9)
open Go.ChangeShapes Go.WideShapes Go.ChangeAt Go.RowKit Go.Maps Go.WideMaps
structure Pq (w : World) (B g gc bm cap : Nat) (vd vw : Value) (ol : List ByteArray) (kv : List Value) (fs : List Ft) (l : List Nat) (c : Cs) : Prop where
 blk : vb w g 84 [.slice (some ⟨gc,0,none⟩) 13824 13824,vd,vw,.map (some bm)]
 cel : vb w gc 141 (csl c)
 dn : w.ownsRow B 9 1 vd ol.length (strs ol)
 wk : w.ownsRow B 189 1 vw kv.length kv
 mp : MpN w bm cap fs l
theorem Pdm.q {w : World} {B : Nat} {fs : List Ft} {g gc bm cap : Nat} {vd vw : Value} {ws : List Wk} {D : Bd} (h : Pdm w B fs g gc bm cap vd vw ws D) : Pq w B g gc bm cap vd vw (onm fs D.done) (ws.map Wk.v) fs D.done D.cs :=
  ⟨h.blk,h.cel,by rw [onm_len];exact h.dn,by rw [List.length_map,h.len];exact h.wk,h.mp⟩
theorem Pq.m {w : World} {B : Nat} {fs : List Ft} {g gc bm cap : Nat} {vd vw : Value} {ws : List Wk} {l : List Nat} {c : Cs} (h : Pq w B g gc bm cap vd vw (onm fs l) (ws.map Wk.v) fs l c) (hl : ws.length = l.length) : Pdm w B fs g gc bm cap vd vw ws ⟨l,c⟩ :=
  ⟨h.blk,h.cel,by have:=h.dn;rw [onm_len] at this;exact this,by have:=h.wk;rw [List.length_map,hl] at this;exact this,h.mp,hl⟩
theorem Pq.bel {w w' : World} {B g gc bm cap : Nat} {vd vw : Value} {ol : List ByteArray} {kv : List Value} {fs : List Ft} {l : List Nat} {c : Cs} (h : Pq w B g gc bm cap vd vw ol kv fs l c) (hb : Below w.heap.size w w') : Pq w' B g gc bm cap vd vw ol kv fs l c :=
  ⟨h.blk.bel hb,h.cel.bel hb,own_bel h.dn hb,own_bel h.wk hb,h.mp.bel hb⟩
theorem Pq.name {wr W2 w1 : World} {B g gc bm cap : Nat} {vd vw v' : Value} {ol : List ByteArray} {kv : List Value} {fs : List Ft} {l : List Nat} {c : Cs} {s : ByteArray} (h : Pq wr B g gc bm cap vd vw ol kv fs l c)
  (hb : Below wr.heap.size wr W2) (hg : W2.grownBy w1 vd.ownBlock) (hown : w1.ownsRow B 9 1 v' (ol.length + 1) (strs ol ++ [.string s])) (h1 : g < B) (h2 : gc < B) (h3 : bm < B) (n1 : g ≠ gc) (n2 : g ≠ bm) :
  Pq (w1.setCell ⟨g,1,none⟩ v') B g gc bm cap v' vw (ol ++ [s]) kv fs l c:=by
 have hgl:=h.blk.lt;have lo : ∀ j,j < B → vd.ownBlock ≠ some j:=fun j hj e => by have:=(own_ge h.dn j e).1;omega
 have hv1 : vb w1 g 84 _:=((hg.block g (Nat.lt_of_lt_of_le hgl hb.size) (fun e => lo g h1 e.symm)).trans (hb.block g hgl)).trans h.blk;refine ⟨hv1.set 1 v',(grw_keep hb hg h.cel.lt (fun e => n1 e.symm) (lo _ h2)).trans h.cel,?_,grw_own hb hg h.dn h.wk (by decide) h1,h.mp.blk (grw_keep hb hg h.mp.lt (fun e => n2 e.symm) (lo _ h3))⟩;rw [List.length_append,show strs (ol ++ [s]) = strs ol ++ [.string s] by simp [strs]];exact own_kept hown fun j hj => Below.heap_setCell _ _ _ _ (by have:=(own_ge hown j hj).1;show j ≠ g;omega)
theorem Pq.work {wr W2 w1 : World} {B g gc bm cap : Nat} {vd vw v' : Value} {ol : List ByteArray} {kv : List Value} {fs : List Ft} {l : List Nat} {c : Cs} {x : Value} (h : Pq wr B g gc bm cap vd vw ol kv fs l c)
  (hb : Below wr.heap.size wr W2) (hg : W2.grownBy w1 vw.ownBlock) (hown : w1.ownsRow B 189 1 v' (kv.length + 1) (kv ++ [x])) (h1 : g < B) (h2 : gc < B) (h3 : bm < B) (n1 : g ≠ gc) (n2 : g ≠ bm) :
  Pq (w1.setCell ⟨g,2,none⟩ v') B g gc bm cap vd v' ol (kv ++ [x]) fs l c:=by
 have hgl:=h.blk.lt;have lo : ∀ j,j < B → vw.ownBlock ≠ some j:=fun j hj e => by have:=(own_ge h.wk j e).1;omega
 have hv1 : vb w1 g 84 _:=((hg.block g (Nat.lt_of_lt_of_le hgl hb.size) (fun e => lo g h1 e.symm)).trans (hb.block g hgl)).trans h.blk;refine ⟨hv1.set 2 v',(grw_keep hb hg h.cel.lt (fun e => n1 e.symm) (lo _ h2)).trans h.cel,grw_own hb hg h.wk h.dn (by decide) h1,?_,h.mp.blk (grw_keep hb hg h.mp.lt (fun e => n2 e.symm) (lo _ h3))⟩;rw [List.length_append];exact own_kept hown fun j hj => Below.heap_setCell _ _ _ _ (by have:=(own_ge hown j hj).1;show j ≠ g;omega)
theorem Pq.num {wr w1 : World} {B g gc bm cap cap' : Nat} {vd vw : Value} {ol : List ByteArray} {kv : List Value} {fs : List Ft} {l l' : List Nat} {c : Cs} (h : Pq wr B g gc bm cap vd vw ol kv fs l c)
  (hm : MpN w1 bm cap' fs l') (ht : wr.mapTurned w1 bm) (h3 : bm < B) (n2 : g ≠ bm) (n3 : gc ≠ bm) : Pq w1 B g gc bm cap' vd vw ol kv fs l' c :=
  ⟨((Tm.turned ht).block g h.blk.lt n2).trans h.blk,((Tm.turned ht).block gc h.cel.lt n3).trans h.cel,own_kept h.dn fun j hj => (Tm.turned ht).block j (own_ge h.dn j hj).2 (by have:=(own_ge h.dn j hj).1;omega),own_kept h.wk fun j hj => (Tm.turned ht).block j (own_ge h.wk j hj).2 (by have:=(own_ge h.wk j hj).1;omega),hm⟩
theorem Pq.lo {wr w1 : World} {N B g gc bm cap : Nat} {vd vw : Value} {ol : List ByteArray} {kv : List Value} {fs : List Ft} {l : List Nat} {c : Cs} (h : Pq wr B g gc bm cap vd vw ol kv fs l c) (hb : Below N wr w1) (h1 : g < N) (h2 : gc < N) (h3 : bm < N)
  (hvd : ∀ j,vd.ownBlock = some j → j < N) (hvw : ∀ j,vw.ownBlock = some j → j < N) : Pq w1 B g gc bm cap vd vw ol kv fs l c :=
  ⟨(hb.block g h1).trans h.blk,(hb.block gc h2).trans h.cel,own_kept h.dn fun j hj => hb.block j (hvd j hj),own_kept h.wk fun j hj => hb.block j (hvw j hj),h.mp.blk (hb.block bm h3)⟩
theorem Pq.cells {wr w1 : World} {B g gc bm cap : Nat} {vd vw : Value} {ol : List ByteArray} {kv : List Value} {fs : List Ft} {l : List Nat} {c c' : Cs} (h : Pq wr B g gc bm cap vd vw ol kv fs l c)
  (hc : vb w1 gc 141 (csl c')) (hk : ∀ j,j < wr.heap.size → j ≠ gc → w1.heap[j]? = wr.heap[j]?) (h2 : gc < B) (n1 : g ≠ gc) (n3 : gc ≠ bm) : Pq w1 B g gc bm cap vd vw ol kv fs l c' :=
  ⟨(hk g h.blk.lt n1).trans h.blk,hc,own_kept h.dn fun j hj => hk j (own_ge h.dn j hj).2 (by have:=(own_ge h.dn j hj).1;omega),own_kept h.wk fun j hj => hk j (own_ge h.wk j hj).2 (by have:=(own_ge h.wk j hj).1;omega),h.mp.blk (hk bm h.mp.lt (fun e => n3 e.symm))⟩
def idN (x0 nx y0 ny z0 j : Nat) : Nat:=((cz j - z0) * ny + (cy j - y0)) * nx + (cx j - x0)
def bN (x0 nx y0 ny z0 nz : Nat) : Bx:=⟨(x0 : Int),(y0 : Int),(z0 : Int),((x0 + nx : Nat) : Int),((y0 + ny : Nat) : Int),((z0 + nz : Nat) : Int)⟩
theorem inN {x0 nx y0 ny z0 nz j : Nat} : inB (bN x0 nx y0 ny z0 nz) j = true ↔ (x0 ≤ cx j ∧ cx j < x0 + nx) ∧ (y0 ≤ cy j ∧ cy j < y0 + ny) ∧ (z0 ≤ cz j ∧ cz j < z0 + nz):=by
 rw [inB_iff];unfold bN;simp only;omega
def filI (x0 nx y0 ny z0 nz : Nat) (v : Bool) (n : Nat) (c : Cs) (k : Nat) : Cs:=⟨fun j => if (inB (bN x0 nx y0 ny z0 nz) j && decide (idN x0 nx y0 ny z0 j < k)) = true then v else c.full j,fun j => if ((inB (bN x0 nx y0 ny z0 nz) j && decide (idN x0 nx y0 ny z0 j < k)) && (c.full j != v)) = true then n else c.by_ j⟩
theorem filI_zero (x0 nx y0 ny z0 nz : Nat) (v : Bool) (n : Nat) (c : Cs) : filI x0 nx y0 ny z0 nz v n c 0 = c:=by
 unfold filI;simp
theorem idN_lt {x0 nx y0 ny z0 nz j : Nat} (h : inB (bN x0 nx y0 ny z0 nz) j = true) : idN x0 nx y0 ny z0 j < nz * ny * nx:=by
 obtain ⟨⟨h1,h2⟩,⟨h3,h4⟩,⟨h5,h6⟩⟩:=inN.1 h;unfold idN
 have e1 : (cz j - z0) * ny + (cy j - y0) + 1 ≤ nz * ny:=by
  have : (cz j - z0 + 1) * ny ≤ nz * ny:=Nat.mul_le_mul_right _ (by omega);rw [Nat.add_mul] at this;omega
 have e2 : ((cz j - z0) * ny + (cy j - y0) + 1) * nx ≤ nz * ny * nx:=Nat.mul_le_mul_right _ e1;rw [Nat.add_mul] at e2;omega
theorem filI_all (x0 nx y0 ny z0 nz : Nat) (v : Bool) (n : Nat) (c : Cs) (hz : z0 + nz ≤ 24) : filI x0 nx y0 ny z0 nz v n c (nz * ny * nx) = fil (bN x0 nx y0 ny z0 nz) v n c:=by
 have e : ∀ j,(inB (bN x0 nx y0 ny z0 nz) j && decide (idN x0 nx y0 ny z0 j < nz * ny * nx)) = (inB (bN x0 nx y0 ny z0 nz) j && decide (j < 13824)):=by
  intro j
  cases h : inB (bN x0 nx y0 ny z0 nz) j with
  | false => rfl
  | true =>
   rw [dt (idN_lt h),dt];have:=inN.1 h;have : cz j < 24:=by omega
   unfold cz at this;omega
 unfold filI fil filP;simp only [e]
def plN (x0 nx y0 ny z0 k : Nat) : Nat:=at3 (x0 + k % nx) (y0 + k / nx % ny) (z0 + k / (nx * ny))
theorem div_lt3 {nx ny nz k : Nat} (hk : k < nz * ny * nx) : 0 < nx ∧ 0 < ny ∧ k % nx < nx ∧ k / nx % ny < ny ∧ k / (nx * ny) < nz:=by
 have hx : 0 < nx:=by
  rcases Nat.eq_zero_or_pos nx with h | h
  · subst h;omega
  · exact h
 have hy : 0 < ny:=by
  rcases Nat.eq_zero_or_pos ny with h | h
  · subst h;simp at hk
  · exact h
 refine ⟨hx,hy,Nat.mod_lt _ hx,Nat.mod_lt _ hy,?_⟩;rw [Nat.div_lt_iff_lt_mul (Nat.mul_pos hx hy),Nat.mul_comm nx ny,← Nat.mul_assoc];exact hk
theorem plN_in {x0 nx y0 ny z0 nz k : Nat} (hx : x0 + nx ≤ 24) (hy : y0 + ny ≤ 24) (hz : z0 + nz ≤ 24) (hk : k < nz * ny * nx) : plN x0 nx y0 ny z0 k < 13824 ∧ inB (bN x0 nx y0 ny z0 nz) (plN x0 nx y0 ny z0 k) = true ∧ idN x0 nx y0 ny z0 (plN x0 nx y0 ny z0 k) = k:=by
 obtain ⟨_,_,h1,h2,h3⟩:=div_lt3 hk;have a1 : cx (plN x0 nx y0 ny z0 k) = x0 + k % nx:=at3_cx (by omega) (by omega);have a2 : cy (plN x0 nx y0 ny z0 k) = y0 + k / nx % ny:=at3_cy (by omega) (by omega);have a3 : cz (plN x0 nx y0 ny z0 k) = z0 + k / (nx * ny):=at3_cz (by omega) (by omega);refine ⟨at3_lt (by omega) (by omega) (by omega),inN.2 ?_,?_⟩
 ·rw [a1,a2,a3]
  exact ⟨⟨Nat.le_add_right _ _,Nat.add_lt_add_left h1 _⟩,⟨Nat.le_add_right _ _,Nat.add_lt_add_left h2 _⟩,Nat.le_add_right _ _,Nat.add_lt_add_left h3 _⟩
 unfold idN;rw [a1,a2,a3,Nat.add_sub_cancel_left,Nat.add_sub_cancel_left,Nat.add_sub_cancel_left,← Nat.div_div_eq_div_mul];rw [Nat.div_add_mod',Nat.div_add_mod']
theorem plN_un {x0 nx y0 ny z0 nz k j : Nat} (h : inB (bN x0 nx y0 ny z0 nz) j = true) (e : idN x0 nx y0 ny z0 j = k) : j = plN x0 nx y0 ny z0 k:=by
 obtain ⟨⟨h1,h2⟩,⟨h3,h4⟩,⟨h5,h6⟩⟩:=inN.1 h;have hx : 0 < nx:=by omega
 have hy : 0 < ny:=by omega
 subst e;have ha : cx j - x0 < nx:=by omega
 have hb : cy j - y0 < ny:=by omega
 have e1 : idN x0 nx y0 ny z0 j % nx = cx j - x0:=by unfold idN;rw [Nat.mul_add_mod',Nat.mod_eq_of_lt ha]
 have e2 : idN x0 nx y0 ny z0 j / nx = (cz j - z0) * ny + (cy j - y0):=by unfold idN;rw [Nat.add_comm,Nat.add_mul_div_right _ _ hx,Nat.div_eq_of_lt ha,Nat.zero_add]
 have e3 : idN x0 nx y0 ny z0 j / nx % ny = cy j - y0:=by rw [e2,Nat.mul_add_mod',Nat.mod_eq_of_lt hb]
 have e4 : idN x0 nx y0 ny z0 j / (nx * ny) = cz j - z0:=by rw [← Nat.div_div_eq_div_mul,e2,Nat.add_comm,Nat.add_mul_div_right _ _ hy,Nat.div_eq_of_lt hb,Nat.zero_add]
 unfold plN;rw [e1,e3,e4,Nat.add_sub_cancel' h1,Nat.add_sub_cancel' h3,Nat.add_sub_cancel' h5,at3_c]
theorem filI_succ {x0 nx y0 ny z0 nz k : Nat} (v : Bool) (n : Nat) (c : Cs) (hx : x0 + nx ≤ 24) (hy : y0 + ny ≤ 24) (hz : z0 + nz ≤ 24) (hk : k < nz * ny * nx) :
  (filI x0 nx y0 ny z0 nz v n c k).full (plN x0 nx y0 ny z0 k) = c.full (plN x0 nx y0 ny z0 k) ∧
  filI x0 nx y0 ny z0 nz v n c (k + 1) = ⟨fun j => if j = plN x0 nx y0 ny z0 k then v else (filI x0 nx y0 ny z0 nz v n c k).full j,fun j => if j = plN x0 nx y0 ny z0 k then (if c.full (plN x0 nx y0 ny z0 k) = v then (filI x0 nx y0 ny z0 nz v n c k).by_ j else n) else (filI x0 nx y0 ny z0 nz v n c k).by_ j⟩:=by
 obtain ⟨h1,h2,h3⟩:=plN_in hx hy hz hk
 have key : ∀ j,(inB (bN x0 nx y0 ny z0 nz) j && decide (idN x0 nx y0 ny z0 j < k + 1)) = if j = plN x0 nx y0 ny z0 k then true else (inB (bN x0 nx y0 ny z0 nz) j && decide (idN x0 nx y0 ny z0 j < k)):=by
  intro j
  by_cases e : j = plN x0 nx y0 ny z0 k
  ·rw [if_pos e,e,h2,h3,dt (Nat.lt_succ_self k)]
   rfl
  ·rw [if_neg e]
   cases hi : inB (bN x0 nx y0 ny z0 nz) j with
   | false => rfl
   | true =>
    have : idN x0 nx y0 ny z0 j ≠ k:=fun e' => e (plN_un hi e')
    simp only [Bool.true_and];rw [decide_eq_decide];omega
 refine ⟨by unfold filI;simp [h3],?_⟩;unfold filI;simp only [key]
 congr 1
 ·funext j
  by_cases e : j = plN x0 nx y0 ny z0 k
  ·simp [e]
  ·simp [e]
 ·funext j
  by_cases e : j = plN x0 nx y0 ny z0 k
  ·subst e
   by_cases e2 : c.full (plN x0 nx y0 ny z0 k) = v
   ·simp [e2,h3]
   ·simp [e2]
  ·simp [e]
theorem okN {b : Bx} (h : bxOk b = true) : ∃ x0 nx y0 ny z0 nz,b = bN x0 nx y0 ny z0 nz ∧ x0 + nx ≤ 24 ∧ y0 + ny ≤ 24 ∧ z0 + nz ≤ 24:=by
 obtain ⟨⟨h1,h2,h3⟩,⟨h4,h5,h6⟩,h7,h8,h9⟩:=bxOk_iff.1 h;obtain ⟨x0,y0,z0,x1,y1,z1⟩:=b;simp only at *;refine ⟨x0.toNat,(x1 - x0).toNat,y0.toNat,(y1 - y0).toNat,z0.toNat,(z1 - z0).toNat,?_,by omega,by omega,by omega⟩;unfold bN;simp only [Bx.mk.injEq];omega
open Go.ChangeShapes Go.WideShapes Go.ChangeAt Go.RowKit Go.Shelf Go.Maps Go.WideMaps
def mks (Ds : List Nat) : List Deferred:=Ds.map fun D => { target:=.collected D,args:=#[] }
theorem leaves_marks {F : Fence} {n : Nat} {P : Program} {fn : Func} {tmps : Array Value} {R : Ending → World → Prop} {N : Nat} : ∀ (Ds : List Nat) (w : World),Ds.Nodup → (∀ D ∈ Ds,N ≤ D ∧ w.heap[D]? = some (.deferred (some []))) →
  (∀ w',Below N w w' → LeavesIn F n P fn tmps R [] .returning w') → LeavesInM F n P fn tmps R (mks Ds) .returning w
 | [],w,_,_,h => h w (bfl _ _)
 | D :: Ds,w,hnd,hD,h => by
  have hh:=hD D (List.mem_cons_self ..)
  have hb : Below N w (w.putObj D (.deferred none)):=⟨rfl,rfl,rfl,by simp,fun b hb => World.putObj_heap_other (by have:=hh.1;omega)⟩
  refine ⟨by simp,.inl ⟨D,_,rfl,run_takeDeferred hh.2,leaves_marks Ds _ (List.nodup_cons.1 hnd).2 (fun E hE => ⟨(hD E (List.mem_cons_of_mem _ hE)).1,?_⟩) (fun w' hw' => h w' (hb.trans hw'))⟩⟩;exact (World.putObj_heap_other (fun e => (List.nodup_cons.1 hnd).1 (by rw [← e];exact hE))).trans (hD E (List.mem_cons_of_mem _ hE)).2
end Go.Proofs.YtkiplmabjeadgaaGreat
