/-
  One rule of a drawn sketch: a round of the drawing.
-/
import Derived.Test.YtchdmigeopmacaaQ20
import Derived.Test.YtchdmigeopmacaaQ22
namespace Go.Proofs.Ytchdmigeopmacaa
open Go.ChangeShapes Go.WideShapes Go.ChangeAt Go.RowKit
set_option linter.unusedVariables false
set_option linter.unusedSimpArgs false

noncomputable def blkOf (id : Nat) : Go.Code → Option Go.Code
  | .seq a b => match blkOf id a with | some c => some c | none => blkOf id b
  | .cond _ a b => match blkOf id a with | some c => some c | none => blkOf id b
  | .block i c => if i = id then some (.block i c) else blkOf id c
  | .loop c => blkOf id c
  | .scope c => blkOf id c
  | _ => none
noncomputable def blk38 (id : Nat) : Go.Code := match Try.f38.body with | some c => (blkOf id c).getD .skip | none => .skip

set_option maxHeartbeats 8000000 in
set_option maxRecDepth 100000 in
theorem blk3 {s1 s2 s6 s7 s8 s9 s10 s11 s12 s13 s14 s15 s16 s17 s18 s19 s20 s21 s22 s23 s24 s25 s26 s27 s28 s29 s30 s31 s32 s33 s34 s35 s36 s37 s38 s39 s40 s41 s42 s43 s44 s45 s46 s47 s48 s49 s50 s51 s52 s53 s54 s55 s56 s57 s58 s59 s60 s61 s62 s63 s64 s65 s66 s67 s68 s69 s70 s71 s72 s73 s74 s75 s76 s77 s78 s79 s80 s81 s82 s83 s84 s85 s86 s87 s88 s89 s90 s91 s92 s93 s94 s95 s96 s97 s98 s99 s100 s101 s102 s103 s104 s105 s106 s107 s108 s109 s110 s111 s112 s113 s114 s115 s116 s117 s118 s119 s120 s121 s122 s123 s124 s125 s126 s127 s128 s129 s130 s131 s132 s133 s134 s135 s136 s137 s138 s139 s140 s141 s142 s143 s144 s145 s146 s147 s148 s149 s150 s151 s152 s153 s154 s155 s156 s157 s158 s159 s160 s161 s162 s163 s164 s165 s166 s167 s168 s169 s170 s171 s172 s173 s174 s175 s176 s177 s178 s179 s180 s181 s182 s183 s184 s185 : Value} {ga N capa B g T m : Nat} {k : Int} {wr Wl : World} {v : Value} {L Z : List Int} {K_ : Act → World → Prop}
    (hk : k ≤ 800000000) (hm : m ≤ 24) (hN1 : 1 ≤ N) (hN2 : N ≤ 11) (hga1 : ga ≠ g) (hga2 : ga ≠ T) (ga3 : ga < Wl.heap.size) (hZl : Z.length = N * 2) (HZ : Hid (∀ x ∈ Z, 0 ≤ x ∧ x ≤ 49)) (HIA : Hid (IntsAt Wl ga 0 Z))
    (HST : Hid (Sta B g T (N : Int) k Wl v m L wr))
    (hK : ∀ (y8 y9 y10 y11 y12 y13 y14 y46 y47 y48 y49 y50 y51 y52 y53 y54 y55 y56 y57 y58 y59 y60 y61 y62 y63 y64 y65 y66 y67 y68 y69 y70 y71 y72 y73 y74 y75 y76 y77 y78 y79 y80 y81 y82 y83 y84 y85 y86 y87 y88 y89 y90 y91 y92 y93 y94 y95 y96 y97 y98 y99 y100 y101 y102 y103 y104 y105 y106 y107 y108 y109 y110 y111 y112 y113 y114 y115 y116 y117 y118 y119 y120 y121 y122 y123 y124 y125 y126 y127 y128 y129 y130 y131 y132 y133 y134 y135 y136 y137 y138 y139 y140 y141 y142 y143 y144 y145 y146 y147 y148 y149 y150 y151 y152 y153 y154 y155 y156 y157 y158 y159 y160 y161 y162 y163 y164 y165 y166 y167 y168 y169 y170 y171 y172 y173 y174 y175 y176 y177 y178 y179 y180 y181 y182 y183 y184 : Value) (v' : Value) (m' : Nat) (L' : List Int) (W' : World), m' ≤ m + 1 → Sta B g T (N : Int) (k + 30) Wl v' m' L' W' → K_ { tmps := #[.pointer (some ⟨g, 0, none⟩), s1, s2, .int .i64 (N : Int), .pointer (some ⟨T, 0, none⟩), .slice (some ⟨ga, 0, none⟩) N capa, s6, s7, y8, y9, y10, y11, y12, y13, y14, s15, s16, s17, s18, s19, s20, s21, s22, s23, s24, s25, s26, s27, s28, s29, s30, s31, s32, s33, s34, s35, s36, s37, s38, s39, s40, s41, s42, s43, s44, s45, y46, y47, y48, y49, y50, y51, y52, y53, y54, y55, y56, y57, y58, y59, y60, y61, y62, y63, y64, y65, y66, y67, y68, y69, y70, y71, y72, y73, y74, y75, y76, y77, y78, y79, y80, y81, y82, y83, y84, y85, y86, y87, y88, y89, y90, y91, y92, y93, y94, y95, y96, y97, y98, y99, y100, y101, y102, y103, y104, y105, y106, y107, y108, y109, y110, y111, y112, y113, y114, y115, y116, y117, y118, y119, y120, y121, y122, y123, y124, y125, y126, y127, y128, y129, y130, y131, y132, y133, y134, y135, y136, y137, y138, y139, y140, y141, y142, y143, y144, y145, y146, y147, y148, y149, y150, y151, y152, y153, y154, y155, y156, y157, y158, y159, y160, y161, y162, y163, y164, y165, y166, y167, y168, y169, y170, y171, y172, y173, y174, y175, y176, y177, y178, y179, y180, y181, y182, y183, y184, s185], defers := [] } W') :
    Go.Code.wp Try.prog (blk38 3) (Only K_) { tmps := #[.pointer (some ⟨g, 0, none⟩), s1, s2, .int .i64 (N : Int), .pointer (some ⟨T, 0, none⟩), .slice (some ⟨ga, 0, none⟩) N capa, s6, s7, s8, s9, s10, s11, s12, s13, s14, s15, s16, s17, s18, s19, s20, s21, s22, s23, s24, s25, s26, s27, s28, s29, s30, s31, s32, s33, s34, s35, s36, s37, s38, s39, s40, s41, s42, s43, s44, s45, s46, s47, s48, s49, s50, s51, s52, s53, s54, s55, s56, s57, s58, s59, s60, s61, s62, s63, s64, s65, s66, s67, s68, s69, s70, s71, s72, s73, s74, s75, s76, s77, s78, s79, s80, s81, s82, s83, s84, s85, s86, s87, s88, s89, s90, s91, s92, s93, s94, s95, s96, s97, s98, s99, s100, s101, s102, s103, s104, s105, s106, s107, s108, s109, s110, s111, s112, s113, s114, s115, s116, s117, s118, s119, s120, s121, s122, s123, s124, s125, s126, s127, s128, s129, s130, s131, s132, s133, s134, s135, s136, s137, s138, s139, s140, s141, s142, s143, s144, s145, s146, s147, s148, s149, s150, s151, s152, s153, s154, s155, s156, s157, s158, s159, s160, s161, s162, s163, s164, s165, s166, s167, s168, s169, s170, s171, s172, s173, s174, s175, s176, s177, s178, s179, s180, s181, s182, s183, s184, s185], defers := [] } wr := by
  obtain ⟨iR, hi1, hy0, hy1, hy2⟩ := info_parts info35s
  have hgW := (unhide HST).hg
  have hTW := (unhide HST).hT
  have hTg := (unhide HST).ne
  have hBT := (unhide HST).hB
  have HK := hide hK
  clear hK
  conv => arg 2; whnf
  go_wp2_with fail
  refine (next_any (N : Int) (unhide HST).so (by omega) (by omega) (by omega)).mono ?_
  rintro e w5 ⟨ra, rfl, ra1, ra2, hs, mv⟩
  have H5 := hide ((unhide HST).mv hs mv)
  clear hs mv
  go_wp2_with fail
  refine (next_any (N : Int) (unhide H5).so (by omega) (by omega) (by omega)).mono ?_
  rintro e w6 ⟨rb, rfl, rb1, rb2, hs, mv⟩
  have H6 := hide ((unhide H5).mv hs mv)
  clear hs mv
  go_wp2_with fail
  refine (next_any 9 (unhide H6).so (by omega) (by omega) (by omega)).mono ?_
  rintro e w7 ⟨rk, rfl, rk1, rk2, hs, mv⟩
  have H7 := hide ((unhide H6).mv hs mv)
  clear hs mv HST H5 H6
  obtain ⟨a, rfl⟩ := Int.eq_ofNat_of_zero_le ra1
  obtain ⟨b, rfl⟩ := Int.eq_ofNat_of_zero_le rb1
  go_wp2_with fail
  refine (wants_any (1 + rk) _).mono ?_
  rintro e w8 ⟨rfl, rfl⟩
  have hO := hide (unhide H7).own
  have hD : Wl.heap.size ≤ w7.heap.size := (unhide H7).two.size
  obtain ⟨xa, hxa⟩ := at_of hZl (show a < N by omega) (show 0 < 2 by omega)
  obtain ⟨ya, hya⟩ := at_of hZl (show a < N by omega) (show 1 < 2 by omega)
  obtain ⟨xb, hxb⟩ := at_of hZl (show b < N by omega) (show 0 < 2 by omega)
  obtain ⟨yb, hyb⟩ := at_of hZl (show b < N by omega) (show 1 < 2 by omega)
  have bxa := unhide HZ xa (List.mem_of_getElem? hxa)
  have bya := unhide HZ ya (List.mem_of_getElem? hya)
  have bxb := unhide HZ xb (List.mem_of_getElem? hxb)
  have byb := unhide HZ yb (List.mem_of_getElem? hyb)
  have qxa : Wl.cell? ⟨ga, a * 2, none⟩ = some (.int .i64 xa) := by have := unhide HIA _ _ hxa; simpa using this
  have qya : Wl.cell? ⟨ga, a * 2 + 1, none⟩ = some (.int .i64 ya) := by have := unhide HIA _ _ hya; simpa using this
  have qxb : Wl.cell? ⟨ga, b * 2, none⟩ = some (.int .i64 xb) := by have := unhide HIA _ _ hxb; simpa using this
  have qyb : Wl.cell? ⟨ga, b * 2 + 1, none⟩ = some (.int .i64 yb) := by have := unhide HIA _ _ hyb; simpa using this
  clear hxa hya hxb hyb
  have ha1 : (a : Int) < (N : Int) := by omega
  have hb1 : (b : Int) < (N : Int) := by omega
  obtain ⟨kq, hkq⟩ : ∃ kq : Nat, 1 + rk = (kq : Int) := ⟨(1 + rk).toNat, by omega⟩
  have kq1 : 1 ≤ kq := by omega
  have kq9 : kq ≤ 9 := by omega
  rw [hkq]
  clear hkq rk1 rk2
  have H8 : Hid (Sta B g T (N : Int) (k + 9) Wl v m L (w7.alloc (.cells #[.int .i64 (kq : Int), .int .i64 (a : Int), .int .i64 0, .int .i64 0] 35)) ∧ Rb w7.heap.size (kq : Int) (a : Int) 0 0 (w7.alloc (.cells #[.int .i64 (kq : Int), .int .i64 (a : Int), .int .i64 0, .int .i64 0] 35))) := hide ⟨((unhide H7).alloc _).up (by omega), ⟨by simp [go_sem], by simp [go_sem], by simp [go_sem], by simp [go_sem], by simp [go_sem], by simp [go_sem]⟩⟩
  generalize w7.alloc (.cells #[.int .i64 (kq : Int), .int .i64 (a : Int), .int .i64 0, .int .i64 0] 35) = V at *
  generalize hnm : decide ((kq : Int) ≤ 6) = nm at *
  go_upto_if 63 with fail
  go_cut [] from 46 to 184 (fun wx => ∃ bb : Int, Sta B g T (N : Int) (k + 9) Wl v m L wx ∧ Rb w7.heap.size (kq : Int) (a : Int) bb 0 wx)
  case first =>
    have e2 := (unhide H8).2.c2
    have ef := (unhide H8).2.f2
    by_cases ho : 3 ≤ kq
    · have o1 : decide ((3 : Int) ≤ (kq : Int)) = true := decide_eq_true (by omega)
      go_wp2_with fail
      go_meet
      exact ⟨_, (unhide H8).1.set hD (unhide hO) _ _, (unhide H8).2.setB _⟩
    · have o1 : decide ((3 : Int) ≤ (kq : Int)) = false := decide_eq_false (by omega)
      go_wp2_with fail
      go_meet
      exact ⟨_, (unhide H8).1, (unhide H8).2⟩
  case rest =>
    obtain ⟨bb, h9, r9⟩ := hcut
    have H9 : Hid (Sta B g T (N : Int) (k + 9) Wl v m L wc ∧ Rb w7.heap.size (kq : Int) (a : Int) bb 0 wc) := hide ⟨h9, r9⟩
    clear h9 r9 H8
    go_upto_if 66 with fail
    go_cut [13, 14] from 46 to 184 (fun d13 d14 wx => ∃ yy : Int, -1000 ≤ yy ∧ yy ≤ 1000 ∧ Sta B g T (N : Int) ((k + 9) + 6) Wl v m L wx ∧ Rb w7.heap.size (kq : Int) (a : Int) bb yy wx)
    case first =>
      cases nm with
      | true =>
        have hn : kq ≤ 6 := by have := of_decide_eq_true hnm; omega
        have oxa : wc.cell? ⟨ga, a * 2, none⟩ = some (.int .i64 xa) := (unhide H9).1.two.cell (by omega) (by omega) qxa
        have oya : wc.cell? ⟨ga, a * 2 + 1, none⟩ = some (.int .i64 ya) := (unhide H9).1.two.cell (by omega) (by omega) qya
        have oxb : wc.cell? ⟨ga, b * 2, none⟩ = some (.int .i64 xb) := (unhide H9).1.two.cell (by omega) (by omega) qxb
        have oyb : wc.cell? ⟨ga, b * 2 + 1, none⟩ = some (.int .i64 yb) := (unhide H9).1.two.cell (by omega) (by omega) qyb
        go_wp2_with fail
        refine q18 (D := 0) ha1 hb1 oxa oya oxb oyb bxa bya bxb byb (fun y67 y68 y69 y70 y71 y72 y73 y74 y75 y76 y77 nq1 => ?_)
        go_wp2_with fail
        refine q19 (D := 0) ha1 hb1 oxa oya oxb oyb bxa bya bxb byb (fun y78 y79 y80 y81 y82 y83 y84 y85 y86 y87 y88 nq2 => ?_)
        go_wp2_with fail
        refine Go.Code.wp_mono (Only.to (fun _ _ h => h)) (q20 (k := (k + 9)) (Wl := Wl) (B := B) (T := T) (m := m) (v := v) (L := L) (bb := bb) ha1 hb1 bxa bya bxb byb kq1 hn (by omega) (by first | exact hide ⟨(unhide H9).1.dn _, (unhide H9).2.dn _⟩ | exact hide ⟨((unhide H9).1.dn _).dn _, ((unhide H9).2.dn _).dn _⟩) hD hO (by omega) (by omega) (by omega) (by omega) (by omega) qxa qya (fun y89 y90 y91 y92 y93 y94 y95 y96 y97 y98 y99 y100 y101 y102 y103 y104 y105 y106 y107 y108 y109 y110 y111 y112 y113 y114 yy W' yy0 yy1 hst hrb => ?_))
        go_wp2_with fail
        go_meet
        exact ⟨yy, yy0, yy1, hst, hrb⟩
      | false =>
        go_wp2_with fail
        go_meet
        exact ⟨0, by omega, by omega, (unhide H9).1.up (by omega), (unhide H9).2⟩
    case rest =>
      obtain ⟨yy, yy0, yy1, h12, r12⟩ := hcut
      have H12 : Hid (Sta B g T (N : Int) ((k + 9) + 6) Wl v m L wc ∧ Rb w7.heap.size (kq : Int) (a : Int) bb yy wc) := hide ⟨h12, r12⟩
      clear h12 r12 H9
      go_upto_region 21 with fail
      go_cut [122] from 46 to 184 (fun s wx => ∃ q : Bool, s = .bool q ∧ (q = true → 7 ≤ kq) ∧ Sta B g T (N : Int) ((k + 9) + 9) Wl v m L wx ∧ Rb w7.heap.size (kq : Int) (a : Int) bb yy wx)
      case first =>
        have g0 := (unhide H12).2.c0
        by_cases hk7 : 7 ≤ kq
        · have o1 : decide ((7 : Int) ≤ (kq : Int)) = true := decide_eq_true (by omega)
          go_wp2_with fail
          refine (chance_any (k := ((k + 9) + 6)) 3 (unhide H12).1.so (by omega) (by omega) (by omega)).mono ?_
          rintro e w13 ⟨c, rfl, hs, mv⟩
          have H13 : Hid (Sta B g T (N : Int) ((k + 9) + 9) Wl v m L w13 ∧ Rb w7.heap.size (kq : Int) (a : Int) bb yy w13) := hide ⟨((unhide H12).1.mv hs mv).up (by omega), (unhide H12).2.mv mv (by omega)⟩
          clear hs mv g0
          go_wp2_with fail
          go_meet
          exact ⟨_, rfl, fun _ => hk7, (unhide H13).1, (unhide H13).2⟩
        · have o1 : decide ((7 : Int) ≤ (kq : Int)) = false := decide_eq_false (by omega)
          go_wp2_with fail
          go_meet
          exact ⟨false, rfl, fun h => (by cases h), (unhide H12).1.up (by omega), (unhide H12).2⟩
      case rest =>
        obtain ⟨q, rfl, hq7, h14, r14⟩ := hcut
        have H14 : Hid (Sta B g T (N : Int) ((k + 9) + 9) Wl v m L wc ∧ Rb w7.heap.size (kq : Int) (a : Int) bb yy wc) := hide ⟨h14, r14⟩
        clear h14 r14 H12
        go_upto_if 122 with fail
        go_cut [] from 46 to 184 (fun wx => Sta B g T (N : Int) ((k + 9) + 9) Wl v m L wx ∧ Rb w7.heap.size (kq : Int) (a : Int) bb yy wx)
        case first =>
          have oxa : wc.cell? ⟨ga, a * 2, none⟩ = some (.int .i64 xa) := (unhide H14).1.two.cell (by omega) (by omega) qxa
          have oya : wc.cell? ⟨ga, a * 2 + 1, none⟩ = some (.int .i64 ya) := (unhide H14).1.two.cell (by omega) (by omega) qya
          have oxb : wc.cell? ⟨ga, b * 2, none⟩ = some (.int .i64 xb) := (unhide H14).1.two.cell (by omega) (by omega) qxb
          have oyb : wc.cell? ⟨ga, b * 2 + 1, none⟩ = some (.int .i64 yb) := (unhide H14).1.two.cell (by omega) (by omega) qyb
          cases q with
          | false =>
            go_wp2_with fail
            go_meet
            exact ⟨(unhide H14).1, (unhide H14).2⟩
          | true =>
            have hq : kq = 7 ∨ kq = 8 ∨ kq = 9 := by have := hq7 rfl; omega
            rcases hq with rfl | rfl | rfl
            · have g0 : wc.cell? ⟨w7.heap.size, 0, none⟩ = some (.int .i64 7) := (unhide H14).2.c0
              by_cases hx : xa = xb
              · have hx1 : (xa != xb) = false := by simp [hx]
                clear hx
                go_wp2_with fail
                refine q22_7f ha1 hb1 g0 oxa oya oxb oyb hx1 (fun y123 y124 y125 y126 y127 y128 y129 y130 y131 y132 y133 y134 y135 y136 y137 y138 y139 y140 y141 y142 y143 y144 y145 y146 y147 y148 y149 y150 y151 y152 y153 y154 y155 y156 y157 y158 y159 y160 y161 y162 y163 y164 y165 nq => ?_)
                go_wp2_with fail
                go_meet
                first | exact ⟨(unhide H14).1, (unhide H14).2⟩ | exact ⟨(unhide H14).1.dn _, (unhide H14).2.dn _⟩
              · have hx1 : (xa != xb) = true := by simp [hx]
                clear hx
                go_wp2_with fail
                refine q22_7t ha1 hb1 g0 oxa oya oxb oyb hx1 (fun y123 y124 y125 y126 y127 y128 y129 y130 y131 y132 y133 y134 y135 y136 y137 y138 y139 y140 y141 y142 y143 y144 y145 y146 y147 y148 y149 y150 y151 y152 y153 y154 y155 y156 y157 y158 y159 y160 y161 y162 y163 y164 y165 nq => ?_)
                go_wp2_with fail
                first | exact unhide HK _ _ _ _ _ _ _ _ _ _ _ _ _ _ _ _ _ _ _ _ _ _ _ _ _ _ _ _ _ _ _ _ _ _ _ _ _ _ _ _ _ _ _ _ _ _ _ _ _ _ _ _ _ _ _ _ _ _ _ _ _ _ _ _ _ _ _ _ _ _ _ _ _ _ _ _ _ _ _ _ _ _ _ _ _ _ _ _ _ _ _ _ _ _ _ _ _ _ _ _ _ _ _ _ _ _ _ _ _ _ _ _ _ _ _ _ _ _ _ _ _ _ _ _ _ _ _ _ _ _ _ _ _ _ _ _ _ _ _ _ _ _ _ _ _ _ _ _ _ _ (by omega) ((unhide H14).1.up (by omega)) | exact unhide HK _ _ _ _ _ _ _ _ _ _ _ _ _ _ _ _ _ _ _ _ _ _ _ _ _ _ _ _ _ _ _ _ _ _ _ _ _ _ _ _ _ _ _ _ _ _ _ _ _ _ _ _ _ _ _ _ _ _ _ _ _ _ _ _ _ _ _ _ _ _ _ _ _ _ _ _ _ _ _ _ _ _ _ _ _ _ _ _ _ _ _ _ _ _ _ _ _ _ _ _ _ _ _ _ _ _ _ _ _ _ _ _ _ _ _ _ _ _ _ _ _ _ _ _ _ _ _ _ _ _ _ _ _ _ _ _ _ _ _ _ _ _ _ _ _ _ _ _ _ _ (by omega) (((unhide H14).1.dn _).up (by omega))
            · have g0 : wc.cell? ⟨w7.heap.size, 0, none⟩ = some (.int .i64 8) := (unhide H14).2.c0
              by_cases hx : ya = yb
              · have hx1 : (ya != yb) = false := by simp [hx]
                clear hx
                go_wp2_with fail
                refine q22_8f ha1 hb1 g0 oxa oya oxb oyb hx1 (fun y123 y124 y125 y126 y127 y128 y129 y130 y131 y132 y133 y134 y135 y136 y137 y138 y139 y140 y141 y142 y143 y144 y145 y146 y147 y148 y149 y150 y151 y152 y153 y154 y155 y156 y157 y158 y159 y160 y161 y162 y163 y164 y165 nq => ?_)
                go_wp2_with fail
                go_meet
                first | exact ⟨(unhide H14).1, (unhide H14).2⟩ | exact ⟨(unhide H14).1.dn _, (unhide H14).2.dn _⟩
              · have hx1 : (ya != yb) = true := by simp [hx]
                clear hx
                go_wp2_with fail
                refine q22_8t ha1 hb1 g0 oxa oya oxb oyb hx1 (fun y123 y124 y125 y126 y127 y128 y129 y130 y131 y132 y133 y134 y135 y136 y137 y138 y139 y140 y141 y142 y143 y144 y145 y146 y147 y148 y149 y150 y151 y152 y153 y154 y155 y156 y157 y158 y159 y160 y161 y162 y163 y164 y165 nq => ?_)
                go_wp2_with fail
                first | exact unhide HK _ _ _ _ _ _ _ _ _ _ _ _ _ _ _ _ _ _ _ _ _ _ _ _ _ _ _ _ _ _ _ _ _ _ _ _ _ _ _ _ _ _ _ _ _ _ _ _ _ _ _ _ _ _ _ _ _ _ _ _ _ _ _ _ _ _ _ _ _ _ _ _ _ _ _ _ _ _ _ _ _ _ _ _ _ _ _ _ _ _ _ _ _ _ _ _ _ _ _ _ _ _ _ _ _ _ _ _ _ _ _ _ _ _ _ _ _ _ _ _ _ _ _ _ _ _ _ _ _ _ _ _ _ _ _ _ _ _ _ _ _ _ _ _ _ _ _ _ _ _ (by omega) ((unhide H14).1.up (by omega)) | exact unhide HK _ _ _ _ _ _ _ _ _ _ _ _ _ _ _ _ _ _ _ _ _ _ _ _ _ _ _ _ _ _ _ _ _ _ _ _ _ _ _ _ _ _ _ _ _ _ _ _ _ _ _ _ _ _ _ _ _ _ _ _ _ _ _ _ _ _ _ _ _ _ _ _ _ _ _ _ _ _ _ _ _ _ _ _ _ _ _ _ _ _ _ _ _ _ _ _ _ _ _ _ _ _ _ _ _ _ _ _ _ _ _ _ _ _ _ _ _ _ _ _ _ _ _ _ _ _ _ _ _ _ _ _ _ _ _ _ _ _ _ _ _ _ _ _ _ _ _ _ _ _ (by omega) (((unhide H14).1.dn _).up (by omega))
            · have g0 : wc.cell? ⟨w7.heap.size, 0, none⟩ = some (.int .i64 9) := (unhide H14).2.c0
              by_cases hx : (a : Int) = (b : Int)
              · have hx1 : ((a : Int) != (b : Int)) = false := by simp [hx]
                clear hx
                go_wp2_with fail
                refine q22_9f ha1 hb1 g0 oxa oya oxb oyb hx1 (fun y123 y124 y125 y126 y127 y128 y129 y130 y131 y132 y133 y134 y135 y136 y137 y138 y139 y140 y141 y142 y143 y144 y145 y146 y147 y148 y149 y150 y151 y152 y153 y154 y155 y156 y157 y158 y159 y160 y161 y162 y163 y164 y165 nq => ?_)
                go_wp2_with fail
                go_meet
                first | exact ⟨(unhide H14).1, (unhide H14).2⟩ | exact ⟨(unhide H14).1.dn _, (unhide H14).2.dn _⟩
              · have hx1 : ((a : Int) != (b : Int)) = true := by simp [hx]
                clear hx
                go_wp2_with fail
                refine q22_9t ha1 hb1 g0 oxa oya oxb oyb hx1 (fun y123 y124 y125 y126 y127 y128 y129 y130 y131 y132 y133 y134 y135 y136 y137 y138 y139 y140 y141 y142 y143 y144 y145 y146 y147 y148 y149 y150 y151 y152 y153 y154 y155 y156 y157 y158 y159 y160 y161 y162 y163 y164 y165 nq => ?_)
                go_wp2_with fail
                first | exact unhide HK _ _ _ _ _ _ _ _ _ _ _ _ _ _ _ _ _ _ _ _ _ _ _ _ _ _ _ _ _ _ _ _ _ _ _ _ _ _ _ _ _ _ _ _ _ _ _ _ _ _ _ _ _ _ _ _ _ _ _ _ _ _ _ _ _ _ _ _ _ _ _ _ _ _ _ _ _ _ _ _ _ _ _ _ _ _ _ _ _ _ _ _ _ _ _ _ _ _ _ _ _ _ _ _ _ _ _ _ _ _ _ _ _ _ _ _ _ _ _ _ _ _ _ _ _ _ _ _ _ _ _ _ _ _ _ _ _ _ _ _ _ _ _ _ _ _ _ _ _ _ (by omega) ((unhide H14).1.up (by omega)) | exact unhide HK _ _ _ _ _ _ _ _ _ _ _ _ _ _ _ _ _ _ _ _ _ _ _ _ _ _ _ _ _ _ _ _ _ _ _ _ _ _ _ _ _ _ _ _ _ _ _ _ _ _ _ _ _ _ _ _ _ _ _ _ _ _ _ _ _ _ _ _ _ _ _ _ _ _ _ _ _ _ _ _ _ _ _ _ _ _ _ _ _ _ _ _ _ _ _ _ _ _ _ _ _ _ _ _ _ _ _ _ _ _ _ _ _ _ _ _ _ _ _ _ _ _ _ _ _ _ _ _ _ _ _ _ _ _ _ _ _ _ _ _ _ _ _ _ _ _ _ _ _ _ (by omega) (((unhide H14).1.dn _).up (by omega))
        case rest =>
          obtain ⟨h15, r15⟩ := hcut
          have H15 : Hid (Sta B g T (N : Int) ((k + 9) + 9) Wl v m L wc ∧ Rb w7.heap.size (kq : Int) (a : Int) bb yy wc) := hide ⟨h15, r15⟩
          clear h15 r15 H14
          go_upto_region 23 with fail
          go_cut [171] from 46 to 184 (fun s wx => ∃ q : Bool, s = .bool q ∧ Sta B g T (N : Int) ((k + 9) + 12) Wl v m L wx ∧ Rb w7.heap.size (kq : Int) (a : Int) bb yy wx)
          case first =>
            go_wp2_with fail
            refine (chance_any (k := ((k + 9) + 9)) 25 (unhide H15).1.so (by omega) (by omega) (by omega)).mono ?_
            rintro e w16 ⟨c, rfl, hs, mv⟩
            have H16 : Hid (Sta B g T (N : Int) ((k + 9) + 12) Wl v m L w16 ∧ Rb w7.heap.size (kq : Int) (a : Int) bb yy w16) := hide ⟨((unhide H15).1.mv hs mv).up (by omega), (unhide H15).2.mv mv (by omega)⟩
            clear hs mv
            cases c with
            | false =>
              go_wp2_with fail
              go_meet
              exact ⟨_, rfl, (unhide H16).1, (unhide H16).2⟩
            | true =>
              go_wp2_with fail
              go_meet
              exact ⟨_, rfl, (unhide H16).1, (unhide H16).2⟩
          case rest =>
            obtain ⟨q, rfl, h16, r16⟩ := hcut
            have H16 : Hid (Sta B g T (N : Int) ((k + 9) + 12) Wl v m L wc ∧ Rb w7.heap.size (kq : Int) (a : Int) bb yy wc) := hide ⟨h16, r16⟩
            clear h16 r16 H15
            go_upto_if 171 with fail
            go_cut [] from 46 to 184 (fun wx => ∃ y2 : Int, Sta B g T (N : Int) ((k + 9) + 15) Wl v m L wx ∧ Rb w7.heap.size (kq : Int) (a : Int) bb y2 wx)
            case first =>
              cases q with
              | false =>
                go_wp2_with fail
                go_meet
                exact ⟨_, (unhide H16).1.up (by omega), (unhide H16).2⟩
              | true =>
                have g3 := (unhide H16).2.c3
                have gz := (unhide H16).2.f3
                have lE := cell_lt g3
                go_wp2_with fail
                go_region_with (go_at_call 39; refine (next_any (k := ((k + 9) + 12)) 7 (by first | exact (unhide H16).1.so | exact ((unhide H16).1.dn _).so | exact (unhide H16).1.drew.so) (by omega) (by omega) (by omega)).mono ?_; rintro e w17 ⟨r17, rfl, r171, r172, hs, mv⟩; have H17 : Hid (Sta B g T (N : Int) ((k + 9) + 15) Wl v m L w17 ∧ Rb w7.heap.size (kq : Int) (a : Int) bb yy w17) := hide (by first | exact ⟨((unhide H16).1.mv hs mv).up (by omega), (unhide H16).2.mv mv (by omega)⟩ | exact ⟨(((unhide H16).1.dn _).mv hs mv).up (by omega), ((unhide H16).2.dn _).mv mv (by omega)⟩ | exact ⟨((unhide H16).1.drew.mv hs mv).up (by omega), (unhide H16).2.drew.mv mv (by omega)⟩); have k3 := (unhide H17).2.c3; have kz := (unhide H17).2.f3; have lk := cell_lt k3; clear hs mv)
                all_goals
                  go_wp2_with fail
                  go_meet
                  first | exact ⟨_, (unhide H17).1.set hD (unhide hO) _ _, (unhide H17).2.setY _⟩ | exact ⟨_, ((unhide H17).1.dn _).set hD (unhide hO) _ _, ((unhide H17).2.dn _).setY _⟩ | exact ⟨_, (unhide H17).1.drew.set hD (unhide hO) _ _, (unhide H17).2.drew.setY _⟩ | exact ⟨_, ((unhide H17).1.set hD (unhide hO) _ _).drew, ((unhide H17).2.setY _).drew⟩
            case rest =>
              obtain ⟨y2, h17, r17⟩ := hcut
              have H17 : Hid (Sta B g T (N : Int) ((k + 9) + 15) Wl v m L wc) := hide h17
              have g0 := r17.c0
              have g1 := r17.c1
              have g2 := r17.c2
              have g3 := r17.c3
              have t1 := h17.c1
              have lt17 := h17.lt
              have hsz17 := h17.two.size
              clear h17 r17 H16
              go_wp2_with (at_builtin; refine unhide ?_)
              refine hide ?_
              refine wpList_append_own _ rfl _ _ 23 rfl Wl.heap.size 35 iR _ 4 32 Try.underlying23 hi1 hy0 hy1 hy2 rfl (by decide) _ _ _ rfl ((unhide H17).row.alloc _) _ 1 1 ([(kq : Int), (a : Int), bb, y2].map (Value.int .i64)) rfl rfl (by first | exact news_cells _ _ (by simp) | exact news_drew _ _ (by simp)) ints_one (by unfold maxLen; omega) (by omega) (by simp; omega) ?_
              intro v' wz hown' hgrow _
              have R := hide (own_more (wr := wc) (news := [(kq : Int), (a : Int), bb, y2]) (by repeat (first | exact Below.refl _ _ | refine Below.alloc ?_ (by first | omega | (simp; omega)) _ | refine Below.drew ?_)) (by simp; omega) (unhide H17).row hown' hgrow)
              have AP := hide ((unhide H17).app (unhide R).1 (unhide R).2)
              have fz : wz.frozen? ⟨T, 1, none⟩ = false := ((unhide R).2.frozen (p := ⟨T, 1, none⟩) (unhide H17).hT).trans (unhide H17).f1
              have fc : wz.cell? ⟨T, 1, none⟩ = some v := ((unhide R).2.cell (p := ⟨T, 1, none⟩) (unhide H17).hT).trans t1
              obtain ⟨u_, cap_, rfl, _⟩ := (unhide R).1.form
              clear hown' hgrow R
              go_wp2_with fail
              exact unhide HK _ _ _ _ _ _ _ _ _ _ _ _ _ _ _ _ _ _ _ _ _ _ _ _ _ _ _ _ _ _ _ _ _ _ _ _ _ _ _ _ _ _ _ _ _ _ _ _ _ _ _ _ _ _ _ _ _ _ _ _ _ _ _ _ _ _ _ _ _ _ _ _ _ _ _ _ _ _ _ _ _ _ _ _ _ _ _ _ _ _ _ _ _ _ _ _ _ _ _ _ _ _ _ _ _ _ _ _ _ _ _ _ _ _ _ _ _ _ _ _ _ _ _ _ _ _ _ _ _ _ _ _ _ _ _ _ _ _ _ _ _ _ _ _ _ _ _ _ _ _ (Nat.le_refl _) ((unhide AP).up (by omega))
end Go.Proofs.Ytchdmigeopmacaa
