/-
  Statements of the law on strips and circles that draw their order, each walked alone.
-/
import Derived.Test.YtdcecfgmfmpeeaaZalq
namespace Go.Proofs.Ytdcecfgmfmpeeaa
open Go.ChangeShapes Go.WideShapes Go.ChangeAt Go.RowKit
set_option linter.unusedVariables false
set_option linter.unusedSimpArgs false
noncomputable def rg3 (id : Nat) : Go.Code := match Try.f3.body with | some c => (regOfZ id c).getD .skip | none => .skip
set_option maxHeartbeats 4000000 in
set_option maxRecDepth 100000 in
theorem fz38 {s0 s1 s2 s3 s4 s6 s7 s8 s9 s10 s11 s12 s13 s14 s15 s16 s17 s18 s19 s20 s21 s23 s24 s25 s28 s29 s30 s31 s32 s33 s34 s35 s36 s37 s38 s39 s40 s41 s42 s43 s44 s45 s46 s47 s48 s49 s50 s51 s52 s53 s54 s55 s56 s57 s58 s59 s60 s61 s62 s63 s64 s65 s66 s67 s68 s69 s70 s71 s72 s73 s74 s75 s76 s77 s78 s79 s80 s81 s82 s83 s84 s85 s86 s87 s88 s89 s90 s91 s92 s93 s94 s95 s96 s97 s98 s99 s100 s101 s102 s103 s104 s105 s106 s107 s108 s109 s110 s111 s112 s113 s114 s115 s116 s117 s118 s119 s120 s121 s122 s123 s124 s125 s126 s127 s128 s129 s130 s131 s132 s133 s134 s135 s136 s137 s138 s139 s140 s141 s142 s143 s144 s145 s146 s147 s148 s149 s150 s151 s152 s153 s154 s155 s156 s157 s158 s159 s160 s161 s162 s163 s164 s165 s166 s167 s168 s169 s170 s171 s172 s173 s174 s175 s176 s177 s178 s179 s180 s181 s182 s183 s184 s185 s186 s187 s188 s189 s190 s191 s192 s193 s194 s195 s196 s197 s198 s199 s200 s201 s202 s203 s204 s205 s206 s207 s208 s209 s210 s211 s212 s213 s214 s215 s216 s217 s218 s219 s220 s221 s222 s223 s224 s225 s226 s227 s228 s229 s230 s231 s232 s233 s234 s235 s236 s237 s238 s239 s240 s241 s242 s243 s244 s245 s246 s247 s248 s249 s250 s251 s252 s253 s254 s255 s256 s257 s258 s259 s260 s261 s262 s263 s264 s265 s266 s267 s268 s269 s270 s271 s272 s273 s274 s275 s276 s277 s278 s279 s280 s281 s282 s283 s284 s285 s286 s287 s288 s289 s290 s291 s292 s293 s294 s295 s296 s297 s298 s299 s300 s301 s302 s303 s304 s305 s306 s307 s308 s309 s310 s311 s312 s313 s314 s315 s316 s317 s318 s319 s320 s321 s322 s323 s324 s325 s326 s327 s328 s329 s330 s331 s332 s333 s334 s335 s336 s337 s338 s339 s340 s341 s342 s343 s344 s345 s346 s347 s348 s349 s350 s351 s352 s353 s354 s355 s356 s357 s358 s359 s360 s361 s362 s363 s364 s365 s366 s367 s368 s369 s370 s371 : Value} {b n cap b22 ob i j : Nat} {x y q0 q1 q2 q3 X Y D N r : Int} {V : World} {K_ : Act → World → Prop} 
  (HI0 : Hid (V.cell? ⟨ob, i, none⟩ = some (.int .i64 (j : Int)))) (HA0 : Hid (V.cell? ⟨b, j * 2, none⟩ = some (.int .i64 (x)))) (HA1 : Hid (V.cell? ⟨b, j * 2 + 1, none⟩ = some (.int .i64 (y)))) (HR0 : Hid (V.cell? ⟨b22, 0, none⟩ = some (.int .i64 (q0)))) (HR1 : Hid (V.cell? ⟨b22, 1, none⟩ = some (.int .i64 (q1)))) (HR2 : Hid (V.cell? ⟨b22, 2, none⟩ = some (.int .i64 (q2)))) (HR3 : Hid (V.cell? ⟨b22, 3, none⟩ = some (.int .i64 (q3)))) (HR4 : Hid (V.cell? ⟨b22, 4, none⟩ = some (.int .i64 (X)))) (HR5 : Hid (V.cell? ⟨b22, 5, none⟩ = some (.int .i64 (Y)))) (HR6 : Hid (V.cell? ⟨b22, 6, none⟩ = some (.int .i64 (D)))) (HR7 : Hid (V.cell? ⟨b22, 7, none⟩ = some (.int .i64 (N)))) 
  (HX3 : Hid (i < 3))
  (HX5 : Hid (j < n))
  (HF8 : Hid (∀ Xw, Below V.heap.size V Xw → Calls Try.prog 12 #[.agg #[.int .i64 (x), .int .i64 (y)], .agg #[.int .i64 (q0), .int .i64 (q1), .int .i64 (q2), .int .i64 (q3), .int .i64 (X), .int .i64 (Y), .int .i64 (D), .int .i64 (N)]] Xw fun e w' => e = .returned (.int .i64 (r)) ∧ Below Xw.heap.size Xw w'))
  (hQ : ∀ (W1 : World), Below V.heap.size V W1 → K_ { tmps := #[s0, s1, s2, s3, s4, .slice (some ⟨b, 0, none⟩) n cap, s6, s7, s8, s9, s10, s11, s12, s13, s14, s15, s16, s17, s18, s19, s20, s21, .pointer (some ⟨b22, 0, none⟩), s23, s24, s25, .slice (some ⟨ob, 0, none⟩) 3 3, .int .i64 (i : Int), s28, s29, s30, s31, s32, s33, s34, s35, s36, s37, s38, s39, s40, s41, s42, s43, s44, s45, s46, s47, s48, s49, s50, s51, s52, s53, s54, s55, s56, s57, s58, s59, s60, s61, s62, s63, s64, s65, s66, s67, s68, s69, s70, s71, s72, s73, s74, s75, s76, s77, s78, s79, s80, s81, s82, s83, s84, s85, s86, s87, s88, s89, s90, s91, s92, s93, s94, s95, s96, s97, s98, s99, s100, s101, s102, s103, s104, s105, s106, s107, s108, s109, s110, s111, s112, s113, s114, s115, s116, s117, s118, s119, s120, s121, s122, s123, s124, s125, s126, s127, s128, s129, s130, s131, s132, s133, s134, s135, s136, s137, s138, s139, s140, s141, s142, s143, s144, s145, s146, s147, s148, s149, s150, s151, s152, s153, s154, s155, s156, s157, s158, s159, s160, s161, s162, s163, s164, s165, s166, s167, s168, s169, s170, s171, s172, s173, s174, s175, s176, s177, s178, s179, s180, s181, s182, s183, s184, s185, s186, s187, s188, s189, s190, s191, s192, s193, s194, s195, s196, s197, s198, s199, s200, s201, s202, s203, s204, s205, s206, s207, s208, s209, s210, s211, s212, s213, s214, s215, s216, s217, s218, s219, s220, s221, s222, s223, s224, s225, s226, s227, s228, s229, s230, s231, s232, s233, s234, s235, s236, s237, s238, s239, s240, s241, s242, s243, s244, s245, s246, s247, s248, s249, s250, s251, s252, s253, s254, .slice (some ⟨b, 0, none⟩) n cap, .slice (some ⟨ob, 0, none⟩) 3 3, .int .i64 (i : Int), .pointer (some ⟨ob, i, none⟩), .int .i64 (j : Int), .pointer (some ⟨b, j * 2, none⟩), .agg #[.int .i64 (x), .int .i64 (y)], .agg #[.int .i64 (q0), .int .i64 (q1), .int .i64 (q2), .int .i64 (q3), .int .i64 (X), .int .i64 (Y), .int .i64 (D), .int .i64 (N)], .int .i64 (r), .pointer (some ⟨b22, 7, none⟩), .int .i64 (N), .bool (r != N), s267, s268, s269, s270, s271, s272, s273, s274, s275, s276, s277, s278, s279, s280, s281, s282, s283, s284, s285, s286, s287, s288, s289, s290, s291, s292, s293, s294, s295, s296, s297, s298, s299, s300, s301, s302, s303, s304, s305, s306, s307, s308, s309, s310, s311, s312, s313, s314, s315, s316, s317, s318, s319, s320, s321, s322, s323, s324, s325, s326, s327, s328, s329, s330, s331, s332, s333, s334, s335, s336, s337, s338, s339, s340, s341, s342, s343, s344, s345, s346, s347, s348, s349, s350, s351, s352, s353, s354, s355, s356, s357, s358, s359, s360, s361, s362, s363, s364, s365, s366, s367, s368, s369, s370, s371], defers := [] } W1) :
  Go.Code.wp Try.prog (rg3 38) (Only K_) { tmps := #[s0, s1, s2, s3, s4, .slice (some ⟨b, 0, none⟩) n cap, s6, s7, s8, s9, s10, s11, s12, s13, s14, s15, s16, s17, s18, s19, s20, s21, .pointer (some ⟨b22, 0, none⟩), s23, s24, s25, .slice (some ⟨ob, 0, none⟩) 3 3, .int .i64 (i : Int), s28, s29, s30, s31, s32, s33, s34, s35, s36, s37, s38, s39, s40, s41, s42, s43, s44, s45, s46, s47, s48, s49, s50, s51, s52, s53, s54, s55, s56, s57, s58, s59, s60, s61, s62, s63, s64, s65, s66, s67, s68, s69, s70, s71, s72, s73, s74, s75, s76, s77, s78, s79, s80, s81, s82, s83, s84, s85, s86, s87, s88, s89, s90, s91, s92, s93, s94, s95, s96, s97, s98, s99, s100, s101, s102, s103, s104, s105, s106, s107, s108, s109, s110, s111, s112, s113, s114, s115, s116, s117, s118, s119, s120, s121, s122, s123, s124, s125, s126, s127, s128, s129, s130, s131, s132, s133, s134, s135, s136, s137, s138, s139, s140, s141, s142, s143, s144, s145, s146, s147, s148, s149, s150, s151, s152, s153, s154, s155, s156, s157, s158, s159, s160, s161, s162, s163, s164, s165, s166, s167, s168, s169, s170, s171, s172, s173, s174, s175, s176, s177, s178, s179, s180, s181, s182, s183, s184, s185, s186, s187, s188, s189, s190, s191, s192, s193, s194, s195, s196, s197, s198, s199, s200, s201, s202, s203, s204, s205, s206, s207, s208, s209, s210, s211, s212, s213, s214, s215, s216, s217, s218, s219, s220, s221, s222, s223, s224, s225, s226, s227, s228, s229, s230, s231, s232, s233, s234, s235, s236, s237, s238, s239, s240, s241, s242, s243, s244, s245, s246, s247, s248, s249, s250, s251, s252, s253, s254, s255, s256, s257, s258, s259, s260, s261, s262, s263, s264, s265, s266, s267, s268, s269, s270, s271, s272, s273, s274, s275, s276, s277, s278, s279, s280, s281, s282, s283, s284, s285, s286, s287, s288, s289, s290, s291, s292, s293, s294, s295, s296, s297, s298, s299, s300, s301, s302, s303, s304, s305, s306, s307, s308, s309, s310, s311, s312, s313, s314, s315, s316, s317, s318, s319, s320, s321, s322, s323, s324, s325, s326, s327, s328, s329, s330, s331, s332, s333, s334, s335, s336, s337, s338, s339, s340, s341, s342, s343, s344, s345, s346, s347, s348, s349, s350, s351, s352, s353, s354, s355, s356, s357, s358, s359, s360, s361, s362, s363, s364, s365, s366, s367, s368, s369, s370, s371], defers := [] } V := by
 have HQ := hide hQ
 clear hQ
 conv => arg 2; whnf
 refine wp_region_inv2 (fun Lb A W => ∃ (u0 u1 u2 u3 u4 u5 u6 u7 u8 u9 u10 u11 : Bool) (dm : Nat), Lb = #[u0, u1, u2, u3, u4, u5, u6, u7, u8, u9, u10, u11] ∧ A = ({ tmps := #[s0, s1, s2, s3, s4, .slice (some ⟨b, 0, none⟩) n cap, s6, s7, s8, s9, s10, s11, s12, s13, s14, s15, s16, s17, s18, s19, s20, s21, .pointer (some ⟨b22, 0, none⟩), s23, s24, s25, .slice (some ⟨ob, 0, none⟩) 3 3, .int .i64 (i : Int), s28, s29, s30, s31, s32, s33, s34, s35, s36, s37, s38, s39, s40, s41, s42, s43, s44, s45, s46, s47, s48, s49, s50, s51, s52, s53, s54, s55, s56, s57, s58, s59, s60, s61, s62, s63, s64, s65, s66, s67, s68, s69, s70, s71, s72, s73, s74, s75, s76, s77, s78, s79, s80, s81, s82, s83, s84, s85, s86, s87, s88, s89, s90, s91, s92, s93, s94, s95, s96, s97, s98, s99, s100, s101, s102, s103, s104, s105, s106, s107, s108, s109, s110, s111, s112, s113, s114, s115, s116, s117, s118, s119, s120, s121, s122, s123, s124, s125, s126, s127, s128, s129, s130, s131, s132, s133, s134, s135, s136, s137, s138, s139, s140, s141, s142, s143, s144, s145, s146, s147, s148, s149, s150, s151, s152, s153, s154, s155, s156, s157, s158, s159, s160, s161, s162, s163, s164, s165, s166, s167, s168, s169, s170, s171, s172, s173, s174, s175, s176, s177, s178, s179, s180, s181, s182, s183, s184, s185, s186, s187, s188, s189, s190, s191, s192, s193, s194, s195, s196, s197, s198, s199, s200, s201, s202, s203, s204, s205, s206, s207, s208, s209, s210, s211, s212, s213, s214, s215, s216, s217, s218, s219, s220, s221, s222, s223, s224, s225, s226, s227, s228, s229, s230, s231, s232, s233, s234, s235, s236, s237, s238, s239, s240, s241, s242, s243, s244, s245, s246, s247, s248, s249, s250, s251, s252, s253, s254, (bif u0 then .slice (some ⟨b, 0, none⟩) n cap else s255), (bif u1 then .slice (some ⟨ob, 0, none⟩) 3 3 else s256), (bif u2 then .int .i64 (i : Int) else s257), (bif u3 then .pointer (some ⟨ob, i, none⟩) else s258), (bif u4 then .int .i64 (j : Int) else s259), (bif u5 then .pointer (some ⟨b, j * 2, none⟩) else s260), (bif u6 then .agg #[.int .i64 (x), .int .i64 (y)] else s261), (bif u7 then .agg #[.int .i64 (q0), .int .i64 (q1), .int .i64 (q2), .int .i64 (q3), .int .i64 (X), .int .i64 (Y), .int .i64 (D), .int .i64 (N)] else s262), (bif u8 then .int .i64 (r) else s263), (bif u9 then .pointer (some ⟨b22, 7, none⟩) else s264), (bif u10 then .int .i64 (N) else s265), (bif u11 then .bool (r != N) else s266), s267, s268, s269, s270, s271, s272, s273, s274, s275, s276, s277, s278, s279, s280, s281, s282, s283, s284, s285, s286, s287, s288, s289, s290, s291, s292, s293, s294, s295, s296, s297, s298, s299, s300, s301, s302, s303, s304, s305, s306, s307, s308, s309, s310, s311, s312, s313, s314, s315, s316, s317, s318, s319, s320, s321, s322, s323, s324, s325, s326, s327, s328, s329, s330, s331, s332, s333, s334, s335, s336, s337, s338, s339, s340, s341, s342, s343, s344, s345, s346, s347, s348, s349, s350, s351, s352, s353, s354, s355, s356, s357, s358, s359, s360, s361, s362, s363, s364, s365, s366, s367, s368, s369, s370, s371], defers := [] } : Act) ∧ Below V.heap.size V W ∧ (u3 = true → u1 = true ∧ u2 = true) ∧ (u4 = true → u3 = true) ∧ (u5 = true → u0 = true ∧ u4 = true) ∧ (u6 = true → u5 = true) ∧ (u8 = true → u6 = true ∧ u7 = true) ∧ (u10 = true → u9 = true) ∧ (u11 = true → u0 = true ∧ u1 = true ∧ u2 = true ∧ u3 = true ∧ u4 = true ∧ u5 = true ∧ u6 = true ∧ u7 = true ∧ u8 = true ∧ u9 = true ∧ u10 = true)) (by kernel_rfl) (by kernel_rfl) ?h0 ?hstep ?hend
 case h0 =>
  exact ⟨false, false, false, false, false, false, false, false, false, false, false, false, 0, rfl, rfl, Below.drew (Below.refl _ _), zf, zf, zf, zf, zf, zf, zf⟩
 case hstep =>
  intro Lb A W hI
  obtain ⟨u0, u1, u2, u3, u4, hI⟩ := hI
  obtain ⟨u5, u6, u7, u8, u9, hI⟩ := hI
  obtain ⟨u10, u11, dm, hI⟩ := hI
  obtain ⟨hLb, hI⟩ := hI
  obtain ⟨hA, hI⟩ := hI
  obtain ⟨kB, hI⟩ := hI
  obtain ⟨l3, hI⟩ := hI
  obtain ⟨l4, hI⟩ := hI
  obtain ⟨l5, hI⟩ := hI
  obtain ⟨l6, hI⟩ := hI
  obtain ⟨l8, hI⟩ := hI
  obtain ⟨l10, hI⟩ := hI
  have kF := hI
  clear hI
  subst hLb
  subst hA
  replace kB := hide kB
  replace l3 := hide l3
  replace l4 := hide l4
  replace l5 := hide l5
  replace l6 := hide l6
  replace l8 := hide l8
  replace l10 := hide l10
  replace kF := hide kF
  refine ⟨?_, ?_, ?_, ?_, ?_, ?_, ?_, ?_, ?_, ?_, ?_, ?_, trivial⟩
  ·intro h0 hd K hK
   have z : u0 = false := h0
   have z11_ : u11 = false := znb fun hu => z.symm.trans ((zu kF hu).1)
   subst z11_
   subst z
   clear h0 hd
   rw [if_pos (by rfl)]
   go_simp
   exact zu hK _ _ ⟨true, u1, u2, u3, u4, u5, u6, u7, u8, u9, u10, false, dm, rfl, rfl, zu kB, zu l3, zu l4, (fun h => ⟨rfl, (zu l5 h).2⟩), zu l6, zu l8, zu l10, zf⟩
  ·intro h0 hd K hK
   have z : u1 = false := h0
   have z11_ : u11 = false := znb fun hu => z.symm.trans ((zu kF hu).2.1)
   subst z11_
   subst z
   clear h0 hd
   rw [if_pos (by rfl)]
   go_simp
   exact zu hK _ _ ⟨u0, true, u2, u3, u4, u5, u6, u7, u8, u9, u10, false, dm, rfl, rfl, zu kB, (fun h => ⟨rfl, (zu l3 h).2⟩), zu l4, zu l5, zu l6, zu l8, zu l10, zf⟩
  ·intro h0 hd K hK
   have z : u2 = false := h0
   have z11_ : u11 = false := znb fun hu => z.symm.trans ((zu kF hu).2.2.1)
   subst z11_
   subst z
   clear h0 hd
   rw [if_pos (by rfl)]
   go_simp
   exact zu hK _ _ ⟨u0, u1, true, u3, u4, u5, u6, u7, u8, u9, u10, false, dm, rfl, rfl, zu kB, (fun h => ⟨(zu l3 h).1, rfl⟩), zu l4, zu l5, zu l6, zu l8, zu l10, zf⟩
  ·intro h0 hd K hK
   have z : u3 = false := h0
   have z11_ : u11 = false := znb fun hu => z.symm.trans ((zu kF hu).2.2.2.1)
   have zd : u1 = true ∧ u2 = true := by
    simp [Region.binds] at hd
    simp [hd]
   obtain ⟨rfl, rfl⟩ := zd
   subst z11_
   subst z
   clear h0 hd
   rw [if_pos (by rfl)]
   have q1 : i < 3 := zu HX3
   have q2 : (i : Int) < (3 : Int) := by omega
   go_simp
   exact zu hK _ _ ⟨u0, true, true, true, u4, u5, u6, u7, u8, u9, u10, false, dm, rfl, rfl, zu kB, (fun _ => ⟨rfl, rfl⟩), (fun h => rfl), zu l5, zu l6, zu l8, zu l10, zf⟩
  ·intro h0 hd K hK
   have z : u4 = false := h0
   have z11_ : u11 = false := znb fun hu => z.symm.trans ((zu kF hu).2.2.2.2.1)
   have zd : u3 = true := by
    simp [Region.binds] at hd
    simp [hd]
   obtain ⟨rfl⟩ := zd
   subst z11_
   subst z
   clear h0 hd
   rw [if_pos (by rfl)]
   have c0 := keep1 (zu kB) (zu HI0)
   go_simp
   exact zu hK _ _ ⟨u0, u1, u2, true, true, u5, u6, u7, u8, u9, u10, false, dm, rfl, rfl, zu kB, zu l3, (fun _ => rfl), (fun h => ⟨(zu l5 h).1, rfl⟩), zu l6, zu l8, zu l10, zf⟩
  ·intro h0 hd K hK
   have z : u5 = false := h0
   have z11_ : u11 = false := znb fun hu => z.symm.trans ((zu kF hu).2.2.2.2.2.1)
   have zd : u0 = true ∧ u4 = true := by
    simp [Region.binds] at hd
    simp [hd]
   obtain ⟨rfl, rfl⟩ := zd
   subst z11_
   subst z
   clear h0 hd
   rw [if_pos (by rfl)]
   have q1 : j < n := zu HX5
   have q2 : (j : Int) < (n : Int) := by omega
   go_simp
   exact zu hK _ _ ⟨true, u1, u2, u3, true, true, u6, u7, u8, u9, u10, false, dm, rfl, rfl, zu kB, zu l3, zu l4, (fun _ => ⟨rfl, rfl⟩), (fun h => rfl), zu l8, zu l10, zf⟩
  ·intro h0 hd K hK
   have z : u6 = false := h0
   have z11_ : u11 = false := znb fun hu => z.symm.trans ((zu kF hu).2.2.2.2.2.2.1)
   have zd : u5 = true := by
    simp [Region.binds] at hd
    simp [hd]
   obtain ⟨rfl⟩ := zd
   subst z11_
   subst z
   clear h0 hd
   rw [if_pos (by rfl)]
   have c0 := keep1 (zu kB) (zu HA0)
   have c1 := keep1 (zu kB) (zu HA1)
   go_simp
   exact zu hK _ _ ⟨u0, u1, u2, u3, u4, true, true, u7, u8, u9, u10, false, dm, rfl, rfl, zu kB, zu l3, zu l4, zu l5, (fun _ => rfl), (fun h => ⟨rfl, (zu l8 h).2⟩), zu l10, zf⟩
  ·intro h0 hd K hK
   have z : u7 = false := h0
   have z11_ : u11 = false := znb fun hu => z.symm.trans ((zu kF hu).2.2.2.2.2.2.2.1)
   subst z11_
   subst z
   clear h0 hd
   rw [if_pos (by rfl)]
   have c0 := keep1 (zu kB) (zu HR0)
   have c1 := keep1 (zu kB) (zu HR1)
   have c2 := keep1 (zu kB) (zu HR2)
   have c3 := keep1 (zu kB) (zu HR3)
   have c4 := keep1 (zu kB) (zu HR4)
   have c5 := keep1 (zu kB) (zu HR5)
   have c6 := keep1 (zu kB) (zu HR6)
   have c7 := keep1 (zu kB) (zu HR7)
   go_simp
   exact zu hK _ _ ⟨u0, u1, u2, u3, u4, u5, u6, true, u8, u9, u10, false, dm, rfl, rfl, zu kB, zu l3, zu l4, zu l5, zu l6, (fun h => ⟨(zu l8 h).1, rfl⟩), zu l10, zf⟩
  ·intro h0 hd K hK
   have z : u8 = false := h0
   have z11_ : u11 = false := znb fun hu => z.symm.trans ((zu kF hu).2.2.2.2.2.2.2.2.1)
   have zd : u6 = true ∧ u7 = true := by
    simp [Region.binds] at hd
    simp [hd]
   obtain ⟨rfl, rfl⟩ := zd
   subst z11_
   subst z
   clear h0 hd
   rw [if_pos (by rfl)]
   go_simp
   refine (zu HF8 W (zu kB)).mono ?_
   rintro e w8 ⟨rfl, hb8⟩
   exact zu hK _ _ ⟨u0, u1, u2, u3, u4, u5, true, true, true, u9, u10, false, dm, rfl, rfl, bc (zu kB) hb8, zu l3, zu l4, zu l5, zu l6, (fun _ => ⟨rfl, rfl⟩), zu l10, zf⟩
  ·intro h0 hd K hK
   have z : u9 = false := h0
   have z11_ : u11 = false := znb fun hu => z.symm.trans ((zu kF hu).2.2.2.2.2.2.2.2.2.1)
   subst z11_
   subst z
   clear h0 hd
   rw [if_pos (by rfl)]
   go_simp
   exact zu hK _ _ ⟨u0, u1, u2, u3, u4, u5, u6, u7, u8, true, u10, false, dm, rfl, rfl, zu kB, zu l3, zu l4, zu l5, zu l6, zu l8, (fun h => rfl), zf⟩
  ·intro h0 hd K hK
   have z : u10 = false := h0
   have z11_ : u11 = false := znb fun hu => z.symm.trans ((zu kF hu).2.2.2.2.2.2.2.2.2.2)
   have zd : u9 = true := by
    simp [Region.binds] at hd
    simp [hd]
   obtain ⟨rfl⟩ := zd
   subst z11_
   subst z
   clear h0 hd
   rw [if_pos (by rfl)]
   have c0 := keep1 (zu kB) (zu HR7)
   go_simp
   exact zu hK _ _ ⟨u0, u1, u2, u3, u4, u5, u6, u7, u8, true, true, false, dm, rfl, rfl, zu kB, zu l3, zu l4, zu l5, zu l6, zu l8, (fun _ => rfl), zf⟩
  ·intro h0 hd K hK
   have z : u11 = false := h0
   have zd0 : u8 = true ∧ u10 = true := by
    simp [Region.binds] at hd
    simp [hd]
   have zd : u8 = true ∧ u10 = true ∧ u0 = true ∧ u1 = true ∧ u2 = true ∧ u3 = true ∧ u4 = true ∧ u5 = true ∧ u6 = true ∧ u7 = true ∧ u9 = true := ⟨zd0.1, zd0.2, (zu l5 (zu l6 (zu l8 zd0.1).1)).1, (zu l3 (zu l4 (zu l5 (zu l6 (zu l8 zd0.1).1)).2)).1, (zu l3 (zu l4 (zu l5 (zu l6 (zu l8 zd0.1).1)).2)).2, (zu l4 (zu l5 (zu l6 (zu l8 zd0.1).1)).2), (zu l5 (zu l6 (zu l8 zd0.1).1)).2, (zu l6 (zu l8 zd0.1).1), (zu l8 zd0.1).1, (zu l8 zd0.1).2, (zu l10 zd0.2)⟩
   obtain ⟨rfl, rfl, rfl, rfl, rfl, rfl, rfl, rfl, rfl, rfl, rfl⟩ := zd
   subst z
   clear h0 hd
   rw [if_pos (by rfl)]
   go_simp
   exact zu hK _ _ ⟨true, true, true, true, true, true, true, true, true, true, true, true, dm, rfl, rfl, zu kB, (fun _ => ⟨rfl, rfl⟩), (fun _ => rfl), (fun _ => ⟨rfl, rfl⟩), (fun _ => rfl), (fun _ => ⟨rfl, rfl⟩), (fun _ => rfl), (fun _ => ⟨rfl, rfl, rfl, rfl, rfl, rfl, rfl, rfl, rfl, rfl, rfl⟩)⟩
 case hend =>
  intro Lb A W hI
  obtain ⟨u0, u1, u2, u3, u4, hI⟩ := hI
  obtain ⟨u5, u6, u7, u8, u9, hI⟩ := hI
  obtain ⟨u10, u11, dm, hI⟩ := hI
  obtain ⟨hLb, hI⟩ := hI
  obtain ⟨hA, hI⟩ := hI
  obtain ⟨kB, hI⟩ := hI
  obtain ⟨l3, hI⟩ := hI
  obtain ⟨l4, hI⟩ := hI
  obtain ⟨l5, hI⟩ := hI
  obtain ⟨l6, hI⟩ := hI
  obtain ⟨l8, hI⟩ := hI
  obtain ⟨l10, hI⟩ := hI
  have kF := hI
  clear hI
  subst hLb
  subst hA
  intro hL
  have hl : u0 = true ∧ u1 = true ∧ u2 = true ∧ u3 = true ∧ u4 = true ∧ u5 = true ∧ u6 = true ∧ u7 = true ∧ u8 = true ∧ u9 = true ∧ u10 = true ∧ u11 = true := by
   have h2 := congrArg Array.toList hL
   simpa [List.replicate] using h2
  obtain ⟨rfl, rfl, rfl, rfl, rfl, rfl, rfl, rfl, rfl, rfl, rfl, rfl⟩ := hl
  exact zu HQ  W kB
set_option maxHeartbeats 4000000 in
set_option maxRecDepth 100000 in
theorem fz43 {s0 s1 s2 s3 s4 s6 s7 s8 s9 s10 s11 s12 s13 s14 s15 s16 s17 s18 s19 s20 s21 s23 s24 s25 s26 s27 s29 s30 s31 s32 s33 s34 s35 s36 s37 s38 s39 s40 s41 s42 s43 s44 s45 s46 s47 s48 s49 s50 s51 s52 s53 s54 s55 s56 s57 s58 s59 s60 s61 s62 s63 s64 s65 s66 s67 s68 s69 s70 s71 s72 s73 s74 s75 s76 s77 s78 s79 s80 s81 s82 s83 s84 s85 s86 s87 s88 s89 s90 s91 s92 s93 s94 s95 s96 s97 s98 s99 s100 s101 s102 s103 s104 s105 s106 s107 s108 s109 s110 s111 s112 s113 s114 s115 s116 s117 s118 s119 s120 s121 s122 s123 s124 s125 s126 s127 s128 s129 s130 s131 s132 s133 s134 s135 s136 s137 s138 s139 s140 s141 s142 s143 s144 s145 s146 s147 s148 s149 s150 s151 s152 s153 s154 s155 s156 s157 s158 s159 s160 s161 s162 s163 s164 s165 s166 s167 s168 s169 s170 s171 s172 s173 s174 s175 s176 s177 s178 s179 s180 s181 s182 s183 s184 s185 s186 s187 s188 s189 s190 s191 s192 s193 s194 s195 s196 s197 s198 s199 s200 s201 s202 s203 s204 s205 s206 s207 s208 s209 s210 s211 s212 s213 s214 s215 s216 s217 s218 s219 s220 s221 s222 s223 s224 s225 s226 s227 s228 s229 s230 s231 s232 s233 s234 s235 s236 s237 s238 s239 s240 s241 s242 s243 s244 s245 s246 s247 s248 s249 s250 s251 s252 s253 s254 s255 s256 s257 s258 s259 s260 s261 s262 s263 s264 s265 s266 s267 s268 s269 s270 s271 s272 s273 s274 s275 s276 s277 s278 s279 s280 s281 s282 s283 s284 s285 s286 s287 s288 s289 s290 s291 s292 s293 s294 s295 s296 s297 s298 s299 s300 s301 s302 s303 s304 s305 s306 s307 s308 s309 s310 s311 s312 s313 s314 s315 s316 s317 s318 s319 s320 s321 s322 s323 s324 s325 s326 s327 s328 s329 s330 s331 s332 s333 s334 s335 s336 s337 s338 s339 s340 s341 s342 s343 s344 s345 s346 s347 s348 s349 s350 s351 s352 s353 s354 s355 s356 s357 s358 s359 s360 s361 s362 s363 s364 s365 s366 s367 s368 s369 s370 s371 : Value} {b n cap b22 i : Nat} {x y q0 q1 q2 q3 X Y D N r : Int} {V : World} {K_ : Act → World → Prop} 
  (HA0 : Hid (V.cell? ⟨b, i * 2, none⟩ = some (.int .i64 (x)))) (HA1 : Hid (V.cell? ⟨b, i * 2 + 1, none⟩ = some (.int .i64 (y)))) (HR0 : Hid (V.cell? ⟨b22, 0, none⟩ = some (.int .i64 (q0)))) (HR1 : Hid (V.cell? ⟨b22, 1, none⟩ = some (.int .i64 (q1)))) (HR2 : Hid (V.cell? ⟨b22, 2, none⟩ = some (.int .i64 (q2)))) (HR3 : Hid (V.cell? ⟨b22, 3, none⟩ = some (.int .i64 (q3)))) (HR4 : Hid (V.cell? ⟨b22, 4, none⟩ = some (.int .i64 (X)))) (HR5 : Hid (V.cell? ⟨b22, 5, none⟩ = some (.int .i64 (Y)))) (HR6 : Hid (V.cell? ⟨b22, 6, none⟩ = some (.int .i64 (D)))) (HR7 : Hid (V.cell? ⟨b22, 7, none⟩ = some (.int .i64 (N)))) 
  (HX2 : Hid (i < n))
  (HF5 : Hid (∀ Xw, Below V.heap.size V Xw → Calls Try.prog 12 #[.agg #[.int .i64 (x), .int .i64 (y)], .agg #[.int .i64 (q0), .int .i64 (q1), .int .i64 (q2), .int .i64 (q3), .int .i64 (X), .int .i64 (Y), .int .i64 (D), .int .i64 (N)]] Xw fun e w' => e = .returned (.int .i64 (r)) ∧ Below Xw.heap.size Xw w'))
  (hQ : ∀ (W1 : World), Below V.heap.size V W1 → K_ { tmps := #[s0, s1, s2, s3, s4, .slice (some ⟨b, 0, none⟩) n cap, s6, s7, s8, s9, s10, s11, s12, s13, s14, s15, s16, s17, s18, s19, s20, s21, .pointer (some ⟨b22, 0, none⟩), s23, s24, s25, s26, s27, .int .i64 (i : Int), s29, s30, s31, s32, s33, s34, s35, s36, s37, s38, s39, s40, s41, s42, s43, s44, s45, s46, s47, s48, s49, s50, s51, s52, s53, s54, s55, s56, s57, s58, s59, s60, s61, s62, s63, s64, s65, s66, s67, s68, s69, s70, s71, s72, s73, s74, s75, s76, s77, s78, s79, s80, s81, s82, s83, s84, s85, s86, s87, s88, s89, s90, s91, s92, s93, s94, s95, s96, s97, s98, s99, s100, s101, s102, s103, s104, s105, s106, s107, s108, s109, s110, s111, s112, s113, s114, s115, s116, s117, s118, s119, s120, s121, s122, s123, s124, s125, s126, s127, s128, s129, s130, s131, s132, s133, s134, s135, s136, s137, s138, s139, s140, s141, s142, s143, s144, s145, s146, s147, s148, s149, s150, s151, s152, s153, s154, s155, s156, s157, s158, s159, s160, s161, s162, s163, s164, s165, s166, s167, s168, s169, s170, s171, s172, s173, s174, s175, s176, s177, s178, s179, s180, s181, s182, s183, s184, s185, s186, s187, s188, s189, s190, s191, s192, s193, s194, s195, s196, s197, s198, s199, s200, s201, s202, s203, s204, s205, s206, s207, s208, s209, s210, s211, s212, s213, s214, s215, s216, s217, s218, s219, s220, s221, s222, s223, s224, s225, s226, s227, s228, s229, s230, s231, s232, s233, s234, s235, s236, s237, s238, s239, s240, s241, s242, s243, s244, s245, s246, s247, s248, s249, s250, s251, s252, s253, s254, s255, s256, s257, s258, s259, s260, s261, s262, s263, s264, s265, s266, s267, s268, s269, s270, s271, s272, .slice (some ⟨b, 0, none⟩) n cap, .int .i64 (i : Int), .pointer (some ⟨b, i * 2, none⟩), .agg #[.int .i64 (x), .int .i64 (y)], .agg #[.int .i64 (q0), .int .i64 (q1), .int .i64 (q2), .int .i64 (q3), .int .i64 (X), .int .i64 (Y), .int .i64 (D), .int .i64 (N)], .int .i64 (r), .pointer (some ⟨b22, 7, none⟩), .int .i64 (N), .bool (decide (N < r)), s282, s283, s284, s285, s286, s287, s288, s289, s290, s291, s292, s293, s294, s295, s296, s297, s298, s299, s300, s301, s302, s303, s304, s305, s306, s307, s308, s309, s310, s311, s312, s313, s314, s315, s316, s317, s318, s319, s320, s321, s322, s323, s324, s325, s326, s327, s328, s329, s330, s331, s332, s333, s334, s335, s336, s337, s338, s339, s340, s341, s342, s343, s344, s345, s346, s347, s348, s349, s350, s351, s352, s353, s354, s355, s356, s357, s358, s359, s360, s361, s362, s363, s364, s365, s366, s367, s368, s369, s370, s371], defers := [] } W1) :
  Go.Code.wp Try.prog (rg3 43) (Only K_) { tmps := #[s0, s1, s2, s3, s4, .slice (some ⟨b, 0, none⟩) n cap, s6, s7, s8, s9, s10, s11, s12, s13, s14, s15, s16, s17, s18, s19, s20, s21, .pointer (some ⟨b22, 0, none⟩), s23, s24, s25, s26, s27, .int .i64 (i : Int), s29, s30, s31, s32, s33, s34, s35, s36, s37, s38, s39, s40, s41, s42, s43, s44, s45, s46, s47, s48, s49, s50, s51, s52, s53, s54, s55, s56, s57, s58, s59, s60, s61, s62, s63, s64, s65, s66, s67, s68, s69, s70, s71, s72, s73, s74, s75, s76, s77, s78, s79, s80, s81, s82, s83, s84, s85, s86, s87, s88, s89, s90, s91, s92, s93, s94, s95, s96, s97, s98, s99, s100, s101, s102, s103, s104, s105, s106, s107, s108, s109, s110, s111, s112, s113, s114, s115, s116, s117, s118, s119, s120, s121, s122, s123, s124, s125, s126, s127, s128, s129, s130, s131, s132, s133, s134, s135, s136, s137, s138, s139, s140, s141, s142, s143, s144, s145, s146, s147, s148, s149, s150, s151, s152, s153, s154, s155, s156, s157, s158, s159, s160, s161, s162, s163, s164, s165, s166, s167, s168, s169, s170, s171, s172, s173, s174, s175, s176, s177, s178, s179, s180, s181, s182, s183, s184, s185, s186, s187, s188, s189, s190, s191, s192, s193, s194, s195, s196, s197, s198, s199, s200, s201, s202, s203, s204, s205, s206, s207, s208, s209, s210, s211, s212, s213, s214, s215, s216, s217, s218, s219, s220, s221, s222, s223, s224, s225, s226, s227, s228, s229, s230, s231, s232, s233, s234, s235, s236, s237, s238, s239, s240, s241, s242, s243, s244, s245, s246, s247, s248, s249, s250, s251, s252, s253, s254, s255, s256, s257, s258, s259, s260, s261, s262, s263, s264, s265, s266, s267, s268, s269, s270, s271, s272, s273, s274, s275, s276, s277, s278, s279, s280, s281, s282, s283, s284, s285, s286, s287, s288, s289, s290, s291, s292, s293, s294, s295, s296, s297, s298, s299, s300, s301, s302, s303, s304, s305, s306, s307, s308, s309, s310, s311, s312, s313, s314, s315, s316, s317, s318, s319, s320, s321, s322, s323, s324, s325, s326, s327, s328, s329, s330, s331, s332, s333, s334, s335, s336, s337, s338, s339, s340, s341, s342, s343, s344, s345, s346, s347, s348, s349, s350, s351, s352, s353, s354, s355, s356, s357, s358, s359, s360, s361, s362, s363, s364, s365, s366, s367, s368, s369, s370, s371], defers := [] } V := by
 have HQ := hide hQ
 clear hQ
 conv => arg 2; whnf
 refine wp_region_inv2 (fun Lb A W => ∃ (u0 u1 u2 u3 u4 u5 u6 u7 u8 : Bool) (dm : Nat), Lb = #[u0, u1, u2, u3, u4, u5, u6, u7, u8] ∧ A = ({ tmps := #[s0, s1, s2, s3, s4, .slice (some ⟨b, 0, none⟩) n cap, s6, s7, s8, s9, s10, s11, s12, s13, s14, s15, s16, s17, s18, s19, s20, s21, .pointer (some ⟨b22, 0, none⟩), s23, s24, s25, s26, s27, .int .i64 (i : Int), s29, s30, s31, s32, s33, s34, s35, s36, s37, s38, s39, s40, s41, s42, s43, s44, s45, s46, s47, s48, s49, s50, s51, s52, s53, s54, s55, s56, s57, s58, s59, s60, s61, s62, s63, s64, s65, s66, s67, s68, s69, s70, s71, s72, s73, s74, s75, s76, s77, s78, s79, s80, s81, s82, s83, s84, s85, s86, s87, s88, s89, s90, s91, s92, s93, s94, s95, s96, s97, s98, s99, s100, s101, s102, s103, s104, s105, s106, s107, s108, s109, s110, s111, s112, s113, s114, s115, s116, s117, s118, s119, s120, s121, s122, s123, s124, s125, s126, s127, s128, s129, s130, s131, s132, s133, s134, s135, s136, s137, s138, s139, s140, s141, s142, s143, s144, s145, s146, s147, s148, s149, s150, s151, s152, s153, s154, s155, s156, s157, s158, s159, s160, s161, s162, s163, s164, s165, s166, s167, s168, s169, s170, s171, s172, s173, s174, s175, s176, s177, s178, s179, s180, s181, s182, s183, s184, s185, s186, s187, s188, s189, s190, s191, s192, s193, s194, s195, s196, s197, s198, s199, s200, s201, s202, s203, s204, s205, s206, s207, s208, s209, s210, s211, s212, s213, s214, s215, s216, s217, s218, s219, s220, s221, s222, s223, s224, s225, s226, s227, s228, s229, s230, s231, s232, s233, s234, s235, s236, s237, s238, s239, s240, s241, s242, s243, s244, s245, s246, s247, s248, s249, s250, s251, s252, s253, s254, s255, s256, s257, s258, s259, s260, s261, s262, s263, s264, s265, s266, s267, s268, s269, s270, s271, s272, (bif u0 then .slice (some ⟨b, 0, none⟩) n cap else s273), (bif u1 then .int .i64 (i : Int) else s274), (bif u2 then .pointer (some ⟨b, i * 2, none⟩) else s275), (bif u3 then .agg #[.int .i64 (x), .int .i64 (y)] else s276), (bif u4 then .agg #[.int .i64 (q0), .int .i64 (q1), .int .i64 (q2), .int .i64 (q3), .int .i64 (X), .int .i64 (Y), .int .i64 (D), .int .i64 (N)] else s277), (bif u5 then .int .i64 (r) else s278), (bif u6 then .pointer (some ⟨b22, 7, none⟩) else s279), (bif u7 then .int .i64 (N) else s280), (bif u8 then .bool (decide (N < r)) else s281), s282, s283, s284, s285, s286, s287, s288, s289, s290, s291, s292, s293, s294, s295, s296, s297, s298, s299, s300, s301, s302, s303, s304, s305, s306, s307, s308, s309, s310, s311, s312, s313, s314, s315, s316, s317, s318, s319, s320, s321, s322, s323, s324, s325, s326, s327, s328, s329, s330, s331, s332, s333, s334, s335, s336, s337, s338, s339, s340, s341, s342, s343, s344, s345, s346, s347, s348, s349, s350, s351, s352, s353, s354, s355, s356, s357, s358, s359, s360, s361, s362, s363, s364, s365, s366, s367, s368, s369, s370, s371], defers := [] } : Act) ∧ Below V.heap.size V W ∧ (u2 = true → u0 = true ∧ u1 = true) ∧ (u3 = true → u2 = true) ∧ (u5 = true → u3 = true ∧ u4 = true) ∧ (u7 = true → u6 = true) ∧ (u8 = true → u0 = true ∧ u1 = true ∧ u2 = true ∧ u3 = true ∧ u4 = true ∧ u5 = true ∧ u6 = true ∧ u7 = true)) (by kernel_rfl) (by kernel_rfl) ?h0 ?hstep ?hend
 case h0 =>
  exact ⟨false, false, false, false, false, false, false, false, false, 0, rfl, rfl, Below.drew (Below.refl _ _), zf, zf, zf, zf, zf⟩
 case hstep =>
  intro Lb A W hI
  obtain ⟨u0, u1, u2, u3, u4, hI⟩ := hI
  obtain ⟨u5, u6, u7, u8, dm, hI⟩ := hI
  obtain ⟨hLb, hI⟩ := hI
  obtain ⟨hA, hI⟩ := hI
  obtain ⟨kB, hI⟩ := hI
  obtain ⟨l2, hI⟩ := hI
  obtain ⟨l3, hI⟩ := hI
  obtain ⟨l5, hI⟩ := hI
  obtain ⟨l7, hI⟩ := hI
  have kF := hI
  clear hI
  subst hLb
  subst hA
  replace kB := hide kB
  replace l2 := hide l2
  replace l3 := hide l3
  replace l5 := hide l5
  replace l7 := hide l7
  replace kF := hide kF
  refine ⟨?_, ?_, ?_, ?_, ?_, ?_, ?_, ?_, ?_, trivial⟩
  ·intro h0 hd K hK
   have z : u0 = false := h0
   have z8_ : u8 = false := znb fun hu => z.symm.trans ((zu kF hu).1)
   subst z8_
   subst z
   clear h0 hd
   rw [if_pos (by rfl)]
   go_simp
   exact zu hK _ _ ⟨true, u1, u2, u3, u4, u5, u6, u7, false, dm, rfl, rfl, zu kB, (fun h => ⟨rfl, (zu l2 h).2⟩), zu l3, zu l5, zu l7, zf⟩
  ·intro h0 hd K hK
   have z : u1 = false := h0
   have z8_ : u8 = false := znb fun hu => z.symm.trans ((zu kF hu).2.1)
   subst z8_
   subst z
   clear h0 hd
   rw [if_pos (by rfl)]
   go_simp
   exact zu hK _ _ ⟨u0, true, u2, u3, u4, u5, u6, u7, false, dm, rfl, rfl, zu kB, (fun h => ⟨(zu l2 h).1, rfl⟩), zu l3, zu l5, zu l7, zf⟩
  ·intro h0 hd K hK
   have z : u2 = false := h0
   have z8_ : u8 = false := znb fun hu => z.symm.trans ((zu kF hu).2.2.1)
   have zd : u0 = true ∧ u1 = true := by
    simp [Region.binds] at hd
    simp [hd]
   obtain ⟨rfl, rfl⟩ := zd
   subst z8_
   subst z
   clear h0 hd
   rw [if_pos (by rfl)]
   have q1 : i < n := zu HX2
   have q2 : (i : Int) < (n : Int) := by omega
   go_simp
   exact zu hK _ _ ⟨true, true, true, u3, u4, u5, u6, u7, false, dm, rfl, rfl, zu kB, (fun _ => ⟨rfl, rfl⟩), (fun h => rfl), zu l5, zu l7, zf⟩
  ·intro h0 hd K hK
   have z : u3 = false := h0
   have z8_ : u8 = false := znb fun hu => z.symm.trans ((zu kF hu).2.2.2.1)
   have zd : u2 = true := by
    simp [Region.binds] at hd
    simp [hd]
   obtain ⟨rfl⟩ := zd
   subst z8_
   subst z
   clear h0 hd
   rw [if_pos (by rfl)]
   have c0 := keep1 (zu kB) (zu HA0)
   have c1 := keep1 (zu kB) (zu HA1)
   go_simp
   exact zu hK _ _ ⟨u0, u1, true, true, u4, u5, u6, u7, false, dm, rfl, rfl, zu kB, zu l2, (fun _ => rfl), (fun h => ⟨rfl, (zu l5 h).2⟩), zu l7, zf⟩
  ·intro h0 hd K hK
   have z : u4 = false := h0
   have z8_ : u8 = false := znb fun hu => z.symm.trans ((zu kF hu).2.2.2.2.1)
   subst z8_
   subst z
   clear h0 hd
   rw [if_pos (by rfl)]
   have c0 := keep1 (zu kB) (zu HR0)
   have c1 := keep1 (zu kB) (zu HR1)
   have c2 := keep1 (zu kB) (zu HR2)
   have c3 := keep1 (zu kB) (zu HR3)
   have c4 := keep1 (zu kB) (zu HR4)
   have c5 := keep1 (zu kB) (zu HR5)
   have c6 := keep1 (zu kB) (zu HR6)
   have c7 := keep1 (zu kB) (zu HR7)
   go_simp
   exact zu hK _ _ ⟨u0, u1, u2, u3, true, u5, u6, u7, false, dm, rfl, rfl, zu kB, zu l2, zu l3, (fun h => ⟨(zu l5 h).1, rfl⟩), zu l7, zf⟩
  ·intro h0 hd K hK
   have z : u5 = false := h0
   have z8_ : u8 = false := znb fun hu => z.symm.trans ((zu kF hu).2.2.2.2.2.1)
   have zd : u3 = true ∧ u4 = true := by
    simp [Region.binds] at hd
    simp [hd]
   obtain ⟨rfl, rfl⟩ := zd
   subst z8_
   subst z
   clear h0 hd
   rw [if_pos (by rfl)]
   go_simp
   refine (zu HF5 W (zu kB)).mono ?_
   rintro e w8 ⟨rfl, hb8⟩
   exact zu hK _ _ ⟨u0, u1, u2, true, true, true, u6, u7, false, dm, rfl, rfl, bc (zu kB) hb8, zu l2, zu l3, (fun _ => ⟨rfl, rfl⟩), zu l7, zf⟩
  ·intro h0 hd K hK
   have z : u6 = false := h0
   have z8_ : u8 = false := znb fun hu => z.symm.trans ((zu kF hu).2.2.2.2.2.2.1)
   subst z8_
   subst z
   clear h0 hd
   rw [if_pos (by rfl)]
   go_simp
   exact zu hK _ _ ⟨u0, u1, u2, u3, u4, u5, true, u7, false, dm, rfl, rfl, zu kB, zu l2, zu l3, zu l5, (fun h => rfl), zf⟩
  ·intro h0 hd K hK
   have z : u7 = false := h0
   have z8_ : u8 = false := znb fun hu => z.symm.trans ((zu kF hu).2.2.2.2.2.2.2)
   have zd : u6 = true := by
    simp [Region.binds] at hd
    simp [hd]
   obtain ⟨rfl⟩ := zd
   subst z8_
   subst z
   clear h0 hd
   rw [if_pos (by rfl)]
   have c0 := keep1 (zu kB) (zu HR7)
   go_simp
   exact zu hK _ _ ⟨u0, u1, u2, u3, u4, u5, true, true, false, dm, rfl, rfl, zu kB, zu l2, zu l3, zu l5, (fun _ => rfl), zf⟩
  ·intro h0 hd K hK
   have z : u8 = false := h0
   have zd0 : u5 = true ∧ u7 = true := by
    simp [Region.binds] at hd
    simp [hd]
   have zd : u5 = true ∧ u7 = true ∧ u0 = true ∧ u1 = true ∧ u2 = true ∧ u3 = true ∧ u4 = true ∧ u6 = true := ⟨zd0.1, zd0.2, (zu l2 (zu l3 (zu l5 zd0.1).1)).1, (zu l2 (zu l3 (zu l5 zd0.1).1)).2, (zu l3 (zu l5 zd0.1).1), (zu l5 zd0.1).1, (zu l5 zd0.1).2, (zu l7 zd0.2)⟩
   obtain ⟨rfl, rfl, rfl, rfl, rfl, rfl, rfl, rfl⟩ := zd
   subst z
   clear h0 hd
   rw [if_pos (by rfl)]
   go_simp
   exact zu hK _ _ ⟨true, true, true, true, true, true, true, true, true, dm, rfl, rfl, zu kB, (fun _ => ⟨rfl, rfl⟩), (fun _ => rfl), (fun _ => ⟨rfl, rfl⟩), (fun _ => rfl), (fun _ => ⟨rfl, rfl, rfl, rfl, rfl, rfl, rfl, rfl⟩)⟩
 case hend =>
  intro Lb A W hI
  obtain ⟨u0, u1, u2, u3, u4, hI⟩ := hI
  obtain ⟨u5, u6, u7, u8, dm, hI⟩ := hI
  obtain ⟨hLb, hI⟩ := hI
  obtain ⟨hA, hI⟩ := hI
  obtain ⟨kB, hI⟩ := hI
  obtain ⟨l2, hI⟩ := hI
  obtain ⟨l3, hI⟩ := hI
  obtain ⟨l5, hI⟩ := hI
  obtain ⟨l7, hI⟩ := hI
  have kF := hI
  clear hI
  subst hLb
  subst hA
  intro hL
  have hl : u0 = true ∧ u1 = true ∧ u2 = true ∧ u3 = true ∧ u4 = true ∧ u5 = true ∧ u6 = true ∧ u7 = true ∧ u8 = true := by
   have h2 := congrArg Array.toList hL
   simpa [List.replicate] using h2
  obtain ⟨rfl, rfl, rfl, rfl, rfl, rfl, rfl, rfl, rfl⟩ := hl
  exact zu HQ  W kB
end Go.Proofs.Ytdcecfgmfmpeeaa
