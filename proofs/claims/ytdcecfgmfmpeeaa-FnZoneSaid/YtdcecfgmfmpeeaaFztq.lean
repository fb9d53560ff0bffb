/-
  The last statement of the law on strips and circles, two ways.
-/
import Derived.Test.YtdcecfgmfmpeeaaFzrq
namespace Go.Proofs.Ytdcecfgmfmpeeaa
open Go.ChangeShapes Go.WideShapes Go.ChangeAt Go.RowKit
set_option linter.unusedVariables false
set_option linter.unusedSimpArgs false
set_option maxHeartbeats 4000000 in
set_option maxRecDepth 100000 in
theorem fz51b {s0 s1 s2 s3 s4 s5 s6 s7 s8 s9 s10 s11 s12 s13 s14 s15 s16 s17 s18 s19 s20 s21 s23 s24 s25 s26 s27 s28 s29 s30 s34 s35 s36 s37 s38 s39 s40 s41 s42 s43 s44 s45 s46 s47 s48 s49 s50 s51 s52 s53 s54 s55 s56 s57 s58 s59 s60 s61 s62 s63 s64 s65 s66 s67 s68 s69 s70 s71 s72 s73 s74 s75 s76 s77 s78 s79 s80 s81 s82 s83 s84 s85 s86 s87 s88 s89 s90 s91 s92 s93 s94 s95 s96 s97 s98 s99 s100 s101 s102 s103 s104 s105 s106 s107 s108 s109 s110 s111 s112 s113 s114 s115 s116 s117 s118 s119 s120 s121 s122 s123 s124 s125 s126 s127 s128 s129 s130 s131 s132 s133 s134 s135 s136 s137 s138 s139 s140 s141 s142 s143 s144 s145 s146 s147 s148 s149 s150 s151 s152 s153 s154 s155 s156 s157 s158 s159 s160 s161 s162 s163 s164 s165 s166 s167 s168 s169 s170 s171 s172 s173 s174 s175 s176 s177 s178 s179 s180 s181 s182 s183 s184 s185 s186 s187 s188 s189 s190 s191 s192 s193 s194 s195 s196 s197 s198 s199 s200 s201 s202 s203 s204 s205 s206 s207 s208 s209 s210 s211 s212 s213 s214 s215 s216 s217 s218 s219 s220 s221 s222 s223 s224 s225 s226 s227 s228 s229 s230 s231 s232 s233 s234 s235 s236 s237 s238 s239 s240 s241 s242 s243 s244 s245 s246 s247 s248 s249 s250 s251 s252 s253 s254 s255 s256 s257 s258 s259 s260 s261 s262 s263 s264 s265 s266 s267 s268 s269 s270 s271 s272 s273 s274 s275 s276 s277 s278 s279 s280 s281 s282 s283 s284 s285 s286 s287 s288 s289 s290 s291 s292 s293 s294 s295 s296 s297 s298 s299 s300 s301 s302 s303 s304 s305 s306 s307 s308 s309 s310 s311 s312 s313 s314 s315 s316 s317 s318 s319 s320 s321 s322 s323 s324 s325 s326 s327 s328 s329 s330 s331 s332 s333 s334 s335 s336 s337 s338 s339 s340 s341 s342 s343 s344 s345 s346 s347 s348 s349 s350 s351 s352 s353 s354 s355 s356 s357 s358 s359 s360 s361 s362 s363 s364 s365 s366 s367 s368 s369 s370 s371 : Value} {b22 b31 b33 : Nat} {x y q0 q1 q2 q3 t0 t1 t2 t3 X Y D N r : Int} {V : World} {K_ : Act → World → Prop} (hlt : ¬ N < r)
  (HR0 : Hid (V.cell? ⟨b22, 0, none⟩ = some (.int .i64 (q0)))) (HR1 : Hid (V.cell? ⟨b22, 1, none⟩ = some (.int .i64 (q1)))) (HR2 : Hid (V.cell? ⟨b22, 2, none⟩ = some (.int .i64 (q2)))) (HR3 : Hid (V.cell? ⟨b22, 3, none⟩ = some (.int .i64 (q3)))) (HR4 : Hid (V.cell? ⟨b22, 4, none⟩ = some (.int .i64 (X)))) (HR5 : Hid (V.cell? ⟨b22, 5, none⟩ = some (.int .i64 (Y)))) (HR6 : Hid (V.cell? ⟨b22, 6, none⟩ = some (.int .i64 (D)))) (HR7 : Hid (V.cell? ⟨b22, 7, none⟩ = some (.int .i64 (N)))) (HS0 : Hid (V.cell? ⟨b31, 0, none⟩ = some (.int .i64 (t0)))) (HS1 : Hid (V.cell? ⟨b31, 1, none⟩ = some (.int .i64 (t1)))) (HS2 : Hid (V.cell? ⟨b31, 2, none⟩ = some (.int .i64 (t2)))) (HS3 : Hid (V.cell? ⟨b31, 3, none⟩ = some (.int .i64 (t3)))) (HS4 : Hid (V.cell? ⟨b31, 4, none⟩ = some (.int .i64 (X)))) (HS5 : Hid (V.cell? ⟨b31, 5, none⟩ = some (.int .i64 (Y)))) (HS6 : Hid (V.cell? ⟨b31, 6, none⟩ = some (.int .i64 (D)))) (HS7 : Hid (V.cell? ⟨b31, 7, none⟩ = some (.int .i64 (N)))) (HM0 : Hid (V.cell? ⟨b33, 0, none⟩ = some (.int .i64 (x)))) (HM1 : Hid (V.cell? ⟨b33, 1, none⟩ = some (.int .i64 (y)))) 
  (HF5 : Hid (∀ Xw, Below V.heap.size V Xw → Calls Try.prog 12 #[.agg #[.int .i64 (x), .int .i64 (y)], .agg #[.int .i64 (q0), .int .i64 (q1), .int .i64 (q2), .int .i64 (q3), .int .i64 (X), .int .i64 (Y), .int .i64 (D), .int .i64 (N)]] Xw fun e w' => e = .returned (.int .i64 (r)) ∧ Below Xw.heap.size Xw w'))
  (hQ : ∀ (W1 : World), Below V.heap.size V W1 → K_ { tmps := #[s0, s1, s2, s3, .bool (true), s5, s6, s7, s8, s9, s10, s11, s12, s13, s14, s15, s16, s17, s18, s19, s20, s21, .pointer (some ⟨b22, 0, none⟩), s23, s24, s25, s26, s27, s28, s29, s30, .pointer (some ⟨b31, 0, none⟩), .int .i64 (0), .pointer (some ⟨b33, 0, none⟩), s34, s35, s36, s37, s38, s39, s40, s41, s42, s43, s44, s45, s46, s47, s48, s49, s50, s51, s52, s53, s54, s55, s56, s57, s58, s59, s60, s61, s62, s63, s64, s65, s66, s67, s68, s69, s70, s71, s72, s73, s74, s75, s76, s77, s78, s79, s80, s81, s82, s83, s84, s85, s86, s87, s88, s89, s90, s91, s92, s93, s94, s95, s96, s97, s98, s99, s100, s101, s102, s103, s104, s105, s106, s107, s108, s109, s110, s111, s112, s113, s114, s115, s116, s117, s118, s119, s120, s121, s122, s123, s124, s125, s126, s127, s128, s129, s130, s131, s132, s133, s134, s135, s136, s137, s138, s139, s140, s141, s142, s143, s144, s145, s146, s147, s148, s149, s150, s151, s152, s153, s154, s155, s156, s157, s158, s159, s160, s161, s162, s163, s164, s165, s166, s167, s168, s169, s170, s171, s172, s173, s174, s175, s176, s177, s178, s179, s180, s181, s182, s183, s184, s185, s186, s187, s188, s189, s190, s191, s192, s193, s194, s195, s196, s197, s198, s199, s200, s201, s202, s203, s204, s205, s206, s207, s208, s209, s210, s211, s212, s213, s214, s215, s216, s217, s218, s219, s220, s221, s222, s223, s224, s225, s226, s227, s228, s229, s230, s231, s232, s233, s234, s235, s236, s237, s238, s239, s240, s241, s242, s243, s244, s245, s246, s247, s248, s249, s250, s251, s252, s253, s254, s255, s256, s257, s258, s259, s260, s261, s262, s263, s264, s265, s266, s267, s268, s269, s270, s271, s272, s273, s274, s275, s276, s277, s278, s279, s280, s281, s282, s283, s284, s285, s286, s287, s288, s289, s290, s291, s292, s293, s294, s295, s296, s297, s298, s299, s300, s301, s302, s303, s304, s305, s306, s307, s308, s309, s310, s311, s312, s313, s314, s315, s316, s317, s318, s319, s320, s321, s322, s323, s324, s325, s326, s327, s328, s329, s330, s331, s332, s333, .int .i64 (0), .bool (true), .bool (true), .agg #[.int .i64 (x), .int .i64 (y)], .agg #[.int .i64 (q0), .int .i64 (q1), .int .i64 (q2), .int .i64 (q3), .int .i64 (X), .int .i64 (Y), .int .i64 (D), .int .i64 (N)], .int .i64 (r), .pointer (some ⟨b22, 7, none⟩), .int .i64 (N), .bool (false), .bool (false), .pointer (some ⟨b31, 4, none⟩), .int .i64 (X), .pointer (some ⟨b22, 4, none⟩), .int .i64 (X), .bool (true), .bool (true), .pointer (some ⟨b31, 5, none⟩), .int .i64 (Y), .pointer (some ⟨b22, 5, none⟩), .int .i64 (Y), .bool (true), .bool (true), .bool (true), .pointer (some ⟨b31, 6, none⟩), .int .i64 (D), .pointer (some ⟨b22, 6, none⟩), .int .i64 (D), .bool (true), .bool (true), .bool (true), .pointer (some ⟨b31, 7, none⟩), .int .i64 (N), .pointer (some ⟨b22, 7, none⟩), .int .i64 (N), .bool (true), .bool (true), .bool (true), .bool (true)], defers := [] } W1) :
  Go.Code.wp Try.prog (rg3 51) (Only K_) { tmps := #[s0, s1, s2, s3, s4, s5, s6, s7, s8, s9, s10, s11, s12, s13, s14, s15, s16, s17, s18, s19, s20, s21, .pointer (some ⟨b22, 0, none⟩), s23, s24, s25, s26, s27, s28, s29, s30, .pointer (some ⟨b31, 0, none⟩), .int .i64 (0), .pointer (some ⟨b33, 0, none⟩), s34, s35, s36, s37, s38, s39, s40, s41, s42, s43, s44, s45, s46, s47, s48, s49, s50, s51, s52, s53, s54, s55, s56, s57, s58, s59, s60, s61, s62, s63, s64, s65, s66, s67, s68, s69, s70, s71, s72, s73, s74, s75, s76, s77, s78, s79, s80, s81, s82, s83, s84, s85, s86, s87, s88, s89, s90, s91, s92, s93, s94, s95, s96, s97, s98, s99, s100, s101, s102, s103, s104, s105, s106, s107, s108, s109, s110, s111, s112, s113, s114, s115, s116, s117, s118, s119, s120, s121, s122, s123, s124, s125, s126, s127, s128, s129, s130, s131, s132, s133, s134, s135, s136, s137, s138, s139, s140, s141, s142, s143, s144, s145, s146, s147, s148, s149, s150, s151, s152, s153, s154, s155, s156, s157, s158, s159, s160, s161, s162, s163, s164, s165, s166, s167, s168, s169, s170, s171, s172, s173, s174, s175, s176, s177, s178, s179, s180, s181, s182, s183, s184, s185, s186, s187, s188, s189, s190, s191, s192, s193, s194, s195, s196, s197, s198, s199, s200, s201, s202, s203, s204, s205, s206, s207, s208, s209, s210, s211, s212, s213, s214, s215, s216, s217, s218, s219, s220, s221, s222, s223, s224, s225, s226, s227, s228, s229, s230, s231, s232, s233, s234, s235, s236, s237, s238, s239, s240, s241, s242, s243, s244, s245, s246, s247, s248, s249, s250, s251, s252, s253, s254, s255, s256, s257, s258, s259, s260, s261, s262, s263, s264, s265, s266, s267, s268, s269, s270, s271, s272, s273, s274, s275, s276, s277, s278, s279, s280, s281, s282, s283, s284, s285, s286, s287, s288, s289, s290, s291, s292, s293, s294, s295, s296, s297, s298, s299, s300, s301, s302, s303, s304, s305, s306, s307, s308, s309, s310, s311, s312, s313, s314, s315, s316, s317, s318, s319, s320, s321, s322, s323, s324, s325, s326, s327, s328, s329, s330, s331, s332, s333, s334, s335, s336, s337, s338, s339, s340, s341, s342, s343, s344, s345, s346, s347, s348, s349, s350, s351, s352, s353, s354, s355, s356, s357, s358, s359, s360, s361, s362, s363, s364, s365, s366, s367, s368, s369, s370, s371], defers := [] } V := by
 have HQ := hide hQ
 clear hQ
 have tm : decide (N < r) = false := decide_eq_false hlt
 conv => arg 2; whnf
 refine wp_region_inv2 (fun Lb A W => ∃ (u0 u1 u2 u3 u4 u5 u6 u7 u8 u9 u10 u11 u12 u13 u14 u15 u16 u17 u18 u19 u20 u21 u22 u23 u24 u25 u26 u27 u28 u29 u30 u31 u32 u33 u34 u35 u36 u37 u38 : Bool) (dm : Nat), Lb = #[u0, u1, u2, u3, u4, u5, u6, u7, u8, u9, u10, u11, u12, u13, u14, u15, u16, u17, u18, u19, u20, u21, u22, u23, u24, u25, u26, u27, u28, u29, u30, u31, u32, u33, u34, u35, u36, u37, u38] ∧ A = ({ tmps := #[s0, s1, s2, s3, (bif u38 then .bool (true) else s4), s5, s6, s7, s8, s9, s10, s11, s12, s13, s14, s15, s16, s17, s18, s19, s20, s21, .pointer (some ⟨b22, 0, none⟩), s23, s24, s25, s26, s27, s28, s29, s30, .pointer (some ⟨b31, 0, none⟩), .int .i64 (0), .pointer (some ⟨b33, 0, none⟩), s34, s35, s36, s37, s38, s39, s40, s41, s42, s43, s44, s45, s46, s47, s48, s49, s50, s51, s52, s53, s54, s55, s56, s57, s58, s59, s60, s61, s62, s63, s64, s65, s66, s67, s68, s69, s70, s71, s72, s73, s74, s75, s76, s77, s78, s79, s80, s81, s82, s83, s84, s85, s86, s87, s88, s89, s90, s91, s92, s93, s94, s95, s96, s97, s98, s99, s100, s101, s102, s103, s104, s105, s106, s107, s108, s109, s110, s111, s112, s113, s114, s115, s116, s117, s118, s119, s120, s121, s122, s123, s124, s125, s126, s127, s128, s129, s130, s131, s132, s133, s134, s135, s136, s137, s138, s139, s140, s141, s142, s143, s144, s145, s146, s147, s148, s149, s150, s151, s152, s153, s154, s155, s156, s157, s158, s159, s160, s161, s162, s163, s164, s165, s166, s167, s168, s169, s170, s171, s172, s173, s174, s175, s176, s177, s178, s179, s180, s181, s182, s183, s184, s185, s186, s187, s188, s189, s190, s191, s192, s193, s194, s195, s196, s197, s198, s199, s200, s201, s202, s203, s204, s205, s206, s207, s208, s209, s210, s211, s212, s213, s214, s215, s216, s217, s218, s219, s220, s221, s222, s223, s224, s225, s226, s227, s228, s229, s230, s231, s232, s233, s234, s235, s236, s237, s238, s239, s240, s241, s242, s243, s244, s245, s246, s247, s248, s249, s250, s251, s252, s253, s254, s255, s256, s257, s258, s259, s260, s261, s262, s263, s264, s265, s266, s267, s268, s269, s270, s271, s272, s273, s274, s275, s276, s277, s278, s279, s280, s281, s282, s283, s284, s285, s286, s287, s288, s289, s290, s291, s292, s293, s294, s295, s296, s297, s298, s299, s300, s301, s302, s303, s304, s305, s306, s307, s308, s309, s310, s311, s312, s313, s314, s315, s316, s317, s318, s319, s320, s321, s322, s323, s324, s325, s326, s327, s328, s329, s330, s331, s332, s333, (bif u0 then .int .i64 (0) else s334), (bif u1 then .bool (true) else s335), (bif u2 then .bool (true) else s336), (bif u3 then .agg #[.int .i64 (x), .int .i64 (y)] else s337), (bif u4 then .agg #[.int .i64 (q0), .int .i64 (q1), .int .i64 (q2), .int .i64 (q3), .int .i64 (X), .int .i64 (Y), .int .i64 (D), .int .i64 (N)] else s338), (bif u5 then .int .i64 (r) else s339), (bif u6 then .pointer (some ⟨b22, 7, none⟩) else s340), (bif u7 then .int .i64 (N) else s341), (bif u8 then .bool (false) else s342), (bif u9 then .bool (false) else s343), (bif u10 then .pointer (some ⟨b31, 4, none⟩) else s344), (bif u11 then .int .i64 (X) else s345), (bif u12 then .pointer (some ⟨b22, 4, none⟩) else s346), (bif u13 then .int .i64 (X) else s347), (bif u14 then .bool (true) else s348), (bif u15 then .bool (true) else s349), (bif u16 then .pointer (some ⟨b31, 5, none⟩) else s350), (bif u17 then .int .i64 (Y) else s351), (bif u18 then .pointer (some ⟨b22, 5, none⟩) else s352), (bif u19 then .int .i64 (Y) else s353), (bif u20 then .bool (true) else s354), (bif u21 then .bool (true) else s355), (bif u22 then .bool (true) else s356), (bif u23 then .pointer (some ⟨b31, 6, none⟩) else s357), (bif u24 then .int .i64 (D) else s358), (bif u25 then .pointer (some ⟨b22, 6, none⟩) else s359), (bif u26 then .int .i64 (D) else s360), (bif u27 then .bool (true) else s361), (bif u28 then .bool (true) else s362), (bif u29 then .bool (true) else s363), (bif u30 then .pointer (some ⟨b31, 7, none⟩) else s364), (bif u31 then .int .i64 (N) else s365), (bif u32 then .pointer (some ⟨b22, 7, none⟩) else s366), (bif u33 then .int .i64 (N) else s367), (bif u34 then .bool (true) else s368), (bif u35 then .bool (true) else s369), (bif u36 then .bool (true) else s370), (bif u37 then .bool (true) else s371)], defers := [] } : Act) ∧ Below V.heap.size V W ∧ (u38 = true → u0 = true ∧ u1 = true ∧ u2 = true ∧ u3 = true ∧ u4 = true ∧ u5 = true ∧ u6 = true ∧ u7 = true ∧ u8 = true ∧ u9 = true ∧ u10 = true ∧ u11 = true ∧ u12 = true ∧ u13 = true ∧ u14 = true ∧ u15 = true ∧ u16 = true ∧ u17 = true ∧ u18 = true ∧ u19 = true ∧ u20 = true ∧ u21 = true ∧ u22 = true ∧ u23 = true ∧ u24 = true ∧ u25 = true ∧ u26 = true ∧ u27 = true ∧ u28 = true ∧ u29 = true ∧ u30 = true ∧ u31 = true ∧ u32 = true ∧ u33 = true ∧ u34 = true ∧ u35 = true ∧ u36 = true ∧ u37 = true)) (by kernel_rfl) (by kernel_rfl) ?h0 ?hstep ?hend
 case h0 =>
  exact ⟨false, false, false, false, false, false, false, false, false, false, false, false, false, false, false, false, false, false, false, false, false, false, false, false, false, false, false, false, false, false, false, false, false, false, false, false, false, false, false, 0, rfl, rfl, Below.drew (Below.refl _ _), zf⟩
 case hstep =>
  intro Lb A W hI
  obtain ⟨u0, u1, u2, u3, u4, hI⟩ := hI
  obtain ⟨u5, u6, u7, u8, u9, hI⟩ := hI
  obtain ⟨u10, u11, u12, u13, u14, hI⟩ := hI
  obtain ⟨u15, u16, u17, u18, u19, hI⟩ := hI
  obtain ⟨u20, u21, u22, u23, u24, hI⟩ := hI
  obtain ⟨u25, u26, u27, u28, u29, hI⟩ := hI
  obtain ⟨u30, u31, u32, u33, u34, hI⟩ := hI
  obtain ⟨u35, u36, u37, u38, dm, hI⟩ := hI
  obtain ⟨hLb, hI⟩ := hI
  obtain ⟨hA, hI⟩ := hI
  obtain ⟨kB, hI⟩ := hI
  have kF := hI
  clear hI
  subst hLb
  subst hA
  replace kB := hide kB
  replace kF := hide kF
  refine ⟨?_, ?_, ?_, ?_, ?_, ?_, ?_, ?_, ?_, ?_, ?_, ?_, ?_, ?_, ?_, ?_, ?_, ?_, ?_, ?_, ?_, ?_, ?_, ?_, ?_, ?_, ?_, ?_, ?_, ?_, ?_, ?_, ?_, ?_, ?_, ?_, ?_, ?_, ?_, trivial⟩
  ·intro h0 hd K hK
   have z : u0 = false := h0
   have z38_ : u38 = false := znb fun hu => z.symm.trans ((zu kF hu).1)
   subst z38_
   subst z
   clear h0 hd
   rw [if_pos (by rfl)]
   go_simp
   exact zu hK _ _ ⟨true, u1, u2, u3, u4, u5, u6, u7, u8, u9, u10, u11, u12, u13, u14, u15, u16, u17, u18, u19, u20, u21, u22, u23, u24, u25, u26, u27, u28, u29, u30, u31, u32, u33, u34, u35, u36, u37, false, dm, rfl, rfl, zu kB, zf⟩
  ·intro h0 hd K hK
   have z : u1 = false := h0
   have z38_ : u38 = false := znb fun hu => z.symm.trans ((zu kF hu).2.1)
   have zd : u0 = true := by
    simp [Region.binds] at hd
    simp [hd]
   obtain ⟨rfl⟩ := zd
   subst z38_
   subst z
   clear h0 hd
   rw [if_pos (by rfl)]
   go_simp
   exact zu hK _ _ ⟨true, true, u2, u3, u4, u5, u6, u7, u8, u9, u10, u11, u12, u13, u14, u15, u16, u17, u18, u19, u20, u21, u22, u23, u24, u25, u26, u27, u28, u29, u30, u31, u32, u33, u34, u35, u36, u37, false, dm, rfl, rfl, zu kB, zf⟩
  ·intro h0 hd K hK
   have z : u2 = false := h0
   have z38_ : u38 = false := znb fun hu => z.symm.trans ((zu kF hu).2.2.1)
   have zd : u1 = true := by
    simp [Region.binds] at hd
    simp [hd]
   obtain ⟨rfl⟩ := zd
   subst z38_
   subst z
   clear h0 hd
   rw [if_pos (by rfl)]
   go_simp
   exact zu hK _ _ ⟨u0, true, true, u3, u4, u5, u6, u7, u8, u9, u10, u11, u12, u13, u14, u15, u16, u17, u18, u19, u20, u21, u22, u23, u24, u25, u26, u27, u28, u29, u30, u31, u32, u33, u34, u35, u36, u37, false, dm, rfl, rfl, zu kB, zf⟩
  ·intro h0 hd K hK
   have z : u3 = false := h0
   have z38_ : u38 = false := znb fun hu => z.symm.trans ((zu kF hu).2.2.2.1)
   have zd : u2 = true := by
    simp [Region.binds] at hd
    simp [hd]
   obtain ⟨rfl⟩ := zd
   subst z38_
   subst z
   clear h0 hd
   rw [if_pos (by rfl)]
   have c0 := keep1 (zu kB) (zu HM0)
   have c1 := keep1 (zu kB) (zu HM1)
   go_simp
   exact zu hK _ _ ⟨u0, u1, true, true, u4, u5, u6, u7, u8, u9, u10, u11, u12, u13, u14, u15, u16, u17, u18, u19, u20, u21, u22, u23, u24, u25, u26, u27, u28, u29, u30, u31, u32, u33, u34, u35, u36, u37, false, dm, rfl, rfl, zu kB, zf⟩
  ·intro h0 hd K hK
   have z : u4 = false := h0
   have z38_ : u38 = false := znb fun hu => z.symm.trans ((zu kF hu).2.2.2.2.1)
   have zd : u2 = true := by
    simp [Region.binds] at hd
    simp [hd]
   obtain ⟨rfl⟩ := zd
   subst z38_
   subst z
   clear h0 hd
   rw [if_pos (by rfl)]
   have c0 := keep1 (zu kB) (zu HR0)
   have c1 := keep1 (zu kB) (zu HR1)
   have c2 := keep1 (zu kB) (zu HR2)
   have c3 := keep1 (zu kB) (zu HR3)
   have c4 := keep1 (zu kB) (zu HR4)
   have c5 := keep1 (zu kB) (zu HR5)
   have c6 := keep1 (zu kB) (zu HR6)
   have c7 := keep1 (zu kB) (zu HR7)
   go_simp
   exact zu hK _ _ ⟨u0, u1, true, u3, true, u5, u6, u7, u8, u9, u10, u11, u12, u13, u14, u15, u16, u17, u18, u19, u20, u21, u22, u23, u24, u25, u26, u27, u28, u29, u30, u31, u32, u33, u34, u35, u36, u37, false, dm, rfl, rfl, zu kB, zf⟩
  ·intro h0 hd K hK
   have z : u5 = false := h0
   have z38_ : u38 = false := znb fun hu => z.symm.trans ((zu kF hu).2.2.2.2.2.1)
   have zd : u3 = true ∧ u4 = true ∧ u2 = true := by
    simp [Region.binds] at hd
    simp [hd]
   obtain ⟨rfl, rfl, rfl⟩ := zd
   subst z38_
   subst z
   clear h0 hd
   rw [if_pos (by rfl)]
   go_simp
   refine (zu HF5 W (zu kB)).mono ?_
   rintro e w8 ⟨rfl, hb8⟩
   exact zu hK _ _ ⟨u0, u1, true, true, true, true, u6, u7, u8, u9, u10, u11, u12, u13, u14, u15, u16, u17, u18, u19, u20, u21, u22, u23, u24, u25, u26, u27, u28, u29, u30, u31, u32, u33, u34, u35, u36, u37, false, dm, rfl, rfl, bc (zu kB) hb8, zf⟩
  ·intro h0 hd K hK
   have z : u6 = false := h0
   have z38_ : u38 = false := znb fun hu => z.symm.trans ((zu kF hu).2.2.2.2.2.2.1)
   have zd : u2 = true := by
    simp [Region.binds] at hd
    simp [hd]
   obtain ⟨rfl⟩ := zd
   subst z38_
   subst z
   clear h0 hd
   rw [if_pos (by rfl)]
   go_simp
   exact zu hK _ _ ⟨u0, u1, true, u3, u4, u5, true, u7, u8, u9, u10, u11, u12, u13, u14, u15, u16, u17, u18, u19, u20, u21, u22, u23, u24, u25, u26, u27, u28, u29, u30, u31, u32, u33, u34, u35, u36, u37, false, dm, rfl, rfl, zu kB, zf⟩
  ·intro h0 hd K hK
   have z : u7 = false := h0
   have z38_ : u38 = false := znb fun hu => z.symm.trans ((zu kF hu).2.2.2.2.2.2.2.1)
   have zd : u6 = true ∧ u2 = true := by
    simp [Region.binds] at hd
    simp [hd]
   obtain ⟨rfl, rfl⟩ := zd
   subst z38_
   subst z
   clear h0 hd
   rw [if_pos (by rfl)]
   have c0 := keep1 (zu kB) (zu HR7)
   go_simp
   exact zu hK _ _ ⟨u0, u1, true, u3, u4, u5, true, true, u8, u9, u10, u11, u12, u13, u14, u15, u16, u17, u18, u19, u20, u21, u22, u23, u24, u25, u26, u27, u28, u29, u30, u31, u32, u33, u34, u35, u36, u37, false, dm, rfl, rfl, zu kB, zf⟩
  ·intro h0 hd K hK
   have z : u8 = false := h0
   have z38_ : u38 = false := znb fun hu => z.symm.trans ((zu kF hu).2.2.2.2.2.2.2.2.1)
   have zd : u5 = true ∧ u7 = true ∧ u2 = true := by
    simp [Region.binds] at hd
    simp [hd]
   obtain ⟨rfl, rfl, rfl⟩ := zd
   subst z38_
   subst z
   clear h0 hd
   rw [if_pos (by rfl)]
   go_simp
   exact zu hK _ _ ⟨u0, u1, true, u3, u4, true, u6, true, true, u9, u10, u11, u12, u13, u14, u15, u16, u17, u18, u19, u20, u21, u22, u23, u24, u25, u26, u27, u28, u29, u30, u31, u32, u33, u34, u35, u36, u37, false, dm, rfl, rfl, zu kB, zf⟩
  ·intro h0 hd K hK
   have z : u9 = false := h0
   have z38_ : u38 = false := znb fun hu => z.symm.trans ((zu kF hu).2.2.2.2.2.2.2.2.2.1)
   have zd : u8 = true ∧ u2 = true := by
    simp [Region.binds] at hd
    simp [hd]
   obtain ⟨rfl, rfl⟩ := zd
   subst z38_
   subst z
   clear h0 hd
   rw [if_pos (by rfl)]
   go_simp
   exact zu hK _ _ ⟨u0, u1, true, u3, u4, u5, u6, u7, true, true, u10, u11, u12, u13, u14, u15, u16, u17, u18, u19, u20, u21, u22, u23, u24, u25, u26, u27, u28, u29, u30, u31, u32, u33, u34, u35, u36, u37, false, dm, rfl, rfl, zu kB, zf⟩
  ·intro h0 hd K hK
   have z : u10 = false := h0
   have z38_ : u38 = false := znb fun hu => z.symm.trans ((zu kF hu).2.2.2.2.2.2.2.2.2.2.1)
   have zd : u9 = true := by
    simp [Region.binds] at hd
    simp [hd]
   obtain ⟨rfl⟩ := zd
   subst z38_
   subst z
   clear h0 hd
   rw [if_pos (by rfl)]
   go_simp
   exact zu hK _ _ ⟨u0, u1, u2, u3, u4, u5, u6, u7, u8, true, true, u11, u12, u13, u14, u15, u16, u17, u18, u19, u20, u21, u22, u23, u24, u25, u26, u27, u28, u29, u30, u31, u32, u33, u34, u35, u36, u37, false, dm, rfl, rfl, zu kB, zf⟩
  ·intro h0 hd K hK
   have z : u11 = false := h0
   have z38_ : u38 = false := znb fun hu => z.symm.trans ((zu kF hu).2.2.2.2.2.2.2.2.2.2.2.1)
   have zd : u10 = true ∧ u9 = true := by
    simp [Region.binds] at hd
    simp [hd]
   obtain ⟨rfl, rfl⟩ := zd
   subst z38_
   subst z
   clear h0 hd
   rw [if_pos (by rfl)]
   have c0 := keep1 (zu kB) (zu HS4)
   go_simp
   exact zu hK _ _ ⟨u0, u1, u2, u3, u4, u5, u6, u7, u8, true, true, true, u12, u13, u14, u15, u16, u17, u18, u19, u20, u21, u22, u23, u24, u25, u26, u27, u28, u29, u30, u31, u32, u33, u34, u35, u36, u37, false, dm, rfl, rfl, zu kB, zf⟩
  ·intro h0 hd K hK
   have z : u12 = false := h0
   have z38_ : u38 = false := znb fun hu => z.symm.trans ((zu kF hu).2.2.2.2.2.2.2.2.2.2.2.2.1)
   have zd : u9 = true := by
    simp [Region.binds] at hd
    simp [hd]
   obtain ⟨rfl⟩ := zd
   subst z38_
   subst z
   clear h0 hd
   rw [if_pos (by rfl)]
   go_simp
   exact zu hK _ _ ⟨u0, u1, u2, u3, u4, u5, u6, u7, u8, true, u10, u11, true, u13, u14, u15, u16, u17, u18, u19, u20, u21, u22, u23, u24, u25, u26, u27, u28, u29, u30, u31, u32, u33, u34, u35, u36, u37, false, dm, rfl, rfl, zu kB, zf⟩
  ·intro h0 hd K hK
   have z : u13 = false := h0
   have z38_ : u38 = false := znb fun hu => z.symm.trans ((zu kF hu).2.2.2.2.2.2.2.2.2.2.2.2.2.1)
   have zd : u12 = true ∧ u9 = true := by
    simp [Region.binds] at hd
    simp [hd]
   obtain ⟨rfl, rfl⟩ := zd
   subst z38_
   subst z
   clear h0 hd
   rw [if_pos (by rfl)]
   have c0 := keep1 (zu kB) (zu HR4)
   go_simp
   exact zu hK _ _ ⟨u0, u1, u2, u3, u4, u5, u6, u7, u8, true, u10, u11, true, true, u14, u15, u16, u17, u18, u19, u20, u21, u22, u23, u24, u25, u26, u27, u28, u29, u30, u31, u32, u33, u34, u35, u36, u37, false, dm, rfl, rfl, zu kB, zf⟩
  ·intro h0 hd K hK
   have z : u14 = false := h0
   have z38_ : u38 = false := znb fun hu => z.symm.trans ((zu kF hu).2.2.2.2.2.2.2.2.2.2.2.2.2.2.1)
   have zd : u11 = true ∧ u13 = true ∧ u9 = true := by
    simp [Region.binds] at hd
    simp [hd]
   obtain ⟨rfl, rfl, rfl⟩ := zd
   subst z38_
   subst z
   clear h0 hd
   rw [if_pos (by rfl)]
   go_simp
   exact zu hK _ _ ⟨u0, u1, u2, u3, u4, u5, u6, u7, u8, true, u10, true, u12, true, true, u15, u16, u17, u18, u19, u20, u21, u22, u23, u24, u25, u26, u27, u28, u29, u30, u31, u32, u33, u34, u35, u36, u37, false, dm, rfl, rfl, zu kB, zf⟩
  ·intro h0 hd K hK
   have z : u15 = false := h0
   have z38_ : u38 = false := znb fun hu => z.symm.trans ((zu kF hu).2.2.2.2.2.2.2.2.2.2.2.2.2.2.2.1)
   have zd : u14 = true ∧ u9 = true := by
    simp [Region.binds] at hd
    simp [hd]
   obtain ⟨rfl, rfl⟩ := zd
   subst z38_
   subst z
   clear h0 hd
   rw [if_pos (by rfl)]
   go_simp
   exact zu hK _ _ ⟨u0, u1, u2, u3, u4, u5, u6, u7, u8, true, u10, u11, u12, u13, true, true, u16, u17, u18, u19, u20, u21, u22, u23, u24, u25, u26, u27, u28, u29, u30, u31, u32, u33, u34, u35, u36, u37, false, dm, rfl, rfl, zu kB, zf⟩
  ·intro h0 hd K hK
   have z : u16 = false := h0
   have z38_ : u38 = false := znb fun hu => z.symm.trans ((zu kF hu).2.2.2.2.2.2.2.2.2.2.2.2.2.2.2.2.1)
   have zd : u15 = true := by
    simp [Region.binds] at hd
    simp [hd]
   obtain ⟨rfl⟩ := zd
   subst z38_
   subst z
   clear h0 hd
   rw [if_pos (by rfl)]
   go_simp
   exact zu hK _ _ ⟨u0, u1, u2, u3, u4, u5, u6, u7, u8, u9, u10, u11, u12, u13, u14, true, true, u17, u18, u19, u20, u21, u22, u23, u24, u25, u26, u27, u28, u29, u30, u31, u32, u33, u34, u35, u36, u37, false, dm, rfl, rfl, zu kB, zf⟩
  ·intro h0 hd K hK
   have z : u17 = false := h0
   have z38_ : u38 = false := znb fun hu => z.symm.trans ((zu kF hu).2.2.2.2.2.2.2.2.2.2.2.2.2.2.2.2.2.1)
   have zd : u16 = true ∧ u15 = true := by
    simp [Region.binds] at hd
    simp [hd]
   obtain ⟨rfl, rfl⟩ := zd
   subst z38_
   subst z
   clear h0 hd
   rw [if_pos (by rfl)]
   have c0 := keep1 (zu kB) (zu HS5)
   go_simp
   exact zu hK _ _ ⟨u0, u1, u2, u3, u4, u5, u6, u7, u8, u9, u10, u11, u12, u13, u14, true, true, true, u18, u19, u20, u21, u22, u23, u24, u25, u26, u27, u28, u29, u30, u31, u32, u33, u34, u35, u36, u37, false, dm, rfl, rfl, zu kB, zf⟩
  ·intro h0 hd K hK
   have z : u18 = false := h0
   have z38_ : u38 = false := znb fun hu => z.symm.trans ((zu kF hu).2.2.2.2.2.2.2.2.2.2.2.2.2.2.2.2.2.2.1)
   have zd : u15 = true := by
    simp [Region.binds] at hd
    simp [hd]
   obtain ⟨rfl⟩ := zd
   subst z38_
   subst z
   clear h0 hd
   rw [if_pos (by rfl)]
   go_simp
   exact zu hK _ _ ⟨u0, u1, u2, u3, u4, u5, u6, u7, u8, u9, u10, u11, u12, u13, u14, true, u16, u17, true, u19, u20, u21, u22, u23, u24, u25, u26, u27, u28, u29, u30, u31, u32, u33, u34, u35, u36, u37, false, dm, rfl, rfl, zu kB, zf⟩
  ·intro h0 hd K hK
   have z : u19 = false := h0
   have z38_ : u38 = false := znb fun hu => z.symm.trans ((zu kF hu).2.2.2.2.2.2.2.2.2.2.2.2.2.2.2.2.2.2.2.1)
   have zd : u18 = true ∧ u15 = true := by
    simp [Region.binds] at hd
    simp [hd]
   obtain ⟨rfl, rfl⟩ := zd
   subst z38_
   subst z
   clear h0 hd
   rw [if_pos (by rfl)]
   have c0 := keep1 (zu kB) (zu HR5)
   go_simp
   exact zu hK _ _ ⟨u0, u1, u2, u3, u4, u5, u6, u7, u8, u9, u10, u11, u12, u13, u14, true, u16, u17, true, true, u20, u21, u22, u23, u24, u25, u26, u27, u28, u29, u30, u31, u32, u33, u34, u35, u36, u37, false, dm, rfl, rfl, zu kB, zf⟩
  ·intro h0 hd K hK
   have z : u20 = false := h0
   have z38_ : u38 = false := znb fun hu => z.symm.trans ((zu kF hu).2.2.2.2.2.2.2.2.2.2.2.2.2.2.2.2.2.2.2.2.1)
   have zd : u17 = true ∧ u19 = true ∧ u15 = true := by
    simp [Region.binds] at hd
    simp [hd]
   obtain ⟨rfl, rfl, rfl⟩ := zd
   subst z38_
   subst z
   clear h0 hd
   rw [if_pos (by rfl)]
   go_simp
   exact zu hK _ _ ⟨u0, u1, u2, u3, u4, u5, u6, u7, u8, u9, u10, u11, u12, u13, u14, true, u16, true, u18, true, true, u21, u22, u23, u24, u25, u26, u27, u28, u29, u30, u31, u32, u33, u34, u35, u36, u37, false, dm, rfl, rfl, zu kB, zf⟩
  ·intro h0 hd K hK
   have z : u21 = false := h0
   have z38_ : u38 = false := znb fun hu => z.symm.trans ((zu kF hu).2.2.2.2.2.2.2.2.2.2.2.2.2.2.2.2.2.2.2.2.2.1)
   have zd : u15 = true ∧ u20 = true ∧ u9 = true := by
    simp [Region.binds] at hd
    simp [hd]
   obtain ⟨rfl, rfl, rfl⟩ := zd
   subst z38_
   subst z
   clear h0 hd
   rw [if_pos (by rfl)]
   go_simp
   exact zu hK _ _ ⟨u0, u1, u2, u3, u4, u5, u6, u7, u8, true, u10, u11, u12, u13, u14, true, u16, u17, u18, u19, true, true, u22, u23, u24, u25, u26, u27, u28, u29, u30, u31, u32, u33, u34, u35, u36, u37, false, dm, rfl, rfl, zu kB, zf⟩
  ·intro h0 hd K hK
   have z : u22 = false := h0
   have z38_ : u38 = false := znb fun hu => z.symm.trans ((zu kF hu).2.2.2.2.2.2.2.2.2.2.2.2.2.2.2.2.2.2.2.2.2.2.1)
   have zd : u21 = true ∧ u9 = true := by
    simp [Region.binds] at hd
    simp [hd]
   obtain ⟨rfl, rfl⟩ := zd
   subst z38_
   subst z
   clear h0 hd
   rw [if_pos (by rfl)]
   go_simp
   exact zu hK _ _ ⟨u0, u1, u2, u3, u4, u5, u6, u7, u8, true, u10, u11, u12, u13, u14, u15, u16, u17, u18, u19, u20, true, true, u23, u24, u25, u26, u27, u28, u29, u30, u31, u32, u33, u34, u35, u36, u37, false, dm, rfl, rfl, zu kB, zf⟩
  ·intro h0 hd K hK
   have z : u23 = false := h0
   have z38_ : u38 = false := znb fun hu => z.symm.trans ((zu kF hu).2.2.2.2.2.2.2.2.2.2.2.2.2.2.2.2.2.2.2.2.2.2.2.1)
   have zd : u22 = true := by
    simp [Region.binds] at hd
    simp [hd]
   obtain ⟨rfl⟩ := zd
   subst z38_
   subst z
   clear h0 hd
   rw [if_pos (by rfl)]
   go_simp
   exact zu hK _ _ ⟨u0, u1, u2, u3, u4, u5, u6, u7, u8, u9, u10, u11, u12, u13, u14, u15, u16, u17, u18, u19, u20, u21, true, true, u24, u25, u26, u27, u28, u29, u30, u31, u32, u33, u34, u35, u36, u37, false, dm, rfl, rfl, zu kB, zf⟩
  ·intro h0 hd K hK
   have z : u24 = false := h0
   have z38_ : u38 = false := znb fun hu => z.symm.trans ((zu kF hu).2.2.2.2.2.2.2.2.2.2.2.2.2.2.2.2.2.2.2.2.2.2.2.2.1)
   have zd : u23 = true ∧ u22 = true := by
    simp [Region.binds] at hd
    simp [hd]
   obtain ⟨rfl, rfl⟩ := zd
   subst z38_
   subst z
   clear h0 hd
   rw [if_pos (by rfl)]
   have c0 := keep1 (zu kB) (zu HS6)
   go_simp
   exact zu hK _ _ ⟨u0, u1, u2, u3, u4, u5, u6, u7, u8, u9, u10, u11, u12, u13, u14, u15, u16, u17, u18, u19, u20, u21, true, true, true, u25, u26, u27, u28, u29, u30, u31, u32, u33, u34, u35, u36, u37, false, dm, rfl, rfl, zu kB, zf⟩
  ·intro h0 hd K hK
   have z : u25 = false := h0
   have z38_ : u38 = false := znb fun hu => z.symm.trans ((zu kF hu).2.2.2.2.2.2.2.2.2.2.2.2.2.2.2.2.2.2.2.2.2.2.2.2.2.1)
   have zd : u22 = true := by
    simp [Region.binds] at hd
    simp [hd]
   obtain ⟨rfl⟩ := zd
   subst z38_
   subst z
   clear h0 hd
   rw [if_pos (by rfl)]
   go_simp
   exact zu hK _ _ ⟨u0, u1, u2, u3, u4, u5, u6, u7, u8, u9, u10, u11, u12, u13, u14, u15, u16, u17, u18, u19, u20, u21, true, u23, u24, true, u26, u27, u28, u29, u30, u31, u32, u33, u34, u35, u36, u37, false, dm, rfl, rfl, zu kB, zf⟩
  ·intro h0 hd K hK
   have z : u26 = false := h0
   have z38_ : u38 = false := znb fun hu => z.symm.trans ((zu kF hu).2.2.2.2.2.2.2.2.2.2.2.2.2.2.2.2.2.2.2.2.2.2.2.2.2.2.1)
   have zd : u25 = true ∧ u22 = true := by
    simp [Region.binds] at hd
    simp [hd]
   obtain ⟨rfl, rfl⟩ := zd
   subst z38_
   subst z
   clear h0 hd
   rw [if_pos (by rfl)]
   have c0 := keep1 (zu kB) (zu HR6)
   go_simp
   exact zu hK _ _ ⟨u0, u1, u2, u3, u4, u5, u6, u7, u8, u9, u10, u11, u12, u13, u14, u15, u16, u17, u18, u19, u20, u21, true, u23, u24, true, true, u27, u28, u29, u30, u31, u32, u33, u34, u35, u36, u37, false, dm, rfl, rfl, zu kB, zf⟩
  ·intro h0 hd K hK
   have z : u27 = false := h0
   have z38_ : u38 = false := znb fun hu => z.symm.trans ((zu kF hu).2.2.2.2.2.2.2.2.2.2.2.2.2.2.2.2.2.2.2.2.2.2.2.2.2.2.2.1)
   have zd : u24 = true ∧ u26 = true ∧ u22 = true := by
    simp [Region.binds] at hd
    simp [hd]
   obtain ⟨rfl, rfl, rfl⟩ := zd
   subst z38_
   subst z
   clear h0 hd
   rw [if_pos (by rfl)]
   go_simp
   exact zu hK _ _ ⟨u0, u1, u2, u3, u4, u5, u6, u7, u8, u9, u10, u11, u12, u13, u14, u15, u16, u17, u18, u19, u20, u21, true, u23, true, u25, true, true, u28, u29, u30, u31, u32, u33, u34, u35, u36, u37, false, dm, rfl, rfl, zu kB, zf⟩
  ·intro h0 hd K hK
   have z : u28 = false := h0
   have z38_ : u38 = false := znb fun hu => z.symm.trans ((zu kF hu).2.2.2.2.2.2.2.2.2.2.2.2.2.2.2.2.2.2.2.2.2.2.2.2.2.2.2.2.1)
   have zd : u22 = true ∧ u27 = true ∧ u9 = true := by
    simp [Region.binds] at hd
    simp [hd]
   obtain ⟨rfl, rfl, rfl⟩ := zd
   subst z38_
   subst z
   clear h0 hd
   rw [if_pos (by rfl)]
   go_simp
   exact zu hK _ _ ⟨u0, u1, u2, u3, u4, u5, u6, u7, u8, true, u10, u11, u12, u13, u14, u15, u16, u17, u18, u19, u20, u21, true, u23, u24, u25, u26, true, true, u29, u30, u31, u32, u33, u34, u35, u36, u37, false, dm, rfl, rfl, zu kB, zf⟩
  ·intro h0 hd K hK
   have z : u29 = false := h0
   have z38_ : u38 = false := znb fun hu => z.symm.trans ((zu kF hu).2.2.2.2.2.2.2.2.2.2.2.2.2.2.2.2.2.2.2.2.2.2.2.2.2.2.2.2.2.1)
   have zd : u28 = true ∧ u9 = true := by
    simp [Region.binds] at hd
    simp [hd]
   obtain ⟨rfl, rfl⟩ := zd
   subst z38_
   subst z
   clear h0 hd
   rw [if_pos (by rfl)]
   go_simp
   exact zu hK _ _ ⟨u0, u1, u2, u3, u4, u5, u6, u7, u8, true, u10, u11, u12, u13, u14, u15, u16, u17, u18, u19, u20, u21, u22, u23, u24, u25, u26, u27, true, true, u30, u31, u32, u33, u34, u35, u36, u37, false, dm, rfl, rfl, zu kB, zf⟩
  ·intro h0 hd K hK
   have z : u30 = false := h0
   have z38_ : u38 = false := znb fun hu => z.symm.trans ((zu kF hu).2.2.2.2.2.2.2.2.2.2.2.2.2.2.2.2.2.2.2.2.2.2.2.2.2.2.2.2.2.2.1)
   have zd : u29 = true := by
    simp [Region.binds] at hd
    simp [hd]
   obtain ⟨rfl⟩ := zd
   subst z38_
   subst z
   clear h0 hd
   rw [if_pos (by rfl)]
   go_simp
   exact zu hK _ _ ⟨u0, u1, u2, u3, u4, u5, u6, u7, u8, u9, u10, u11, u12, u13, u14, u15, u16, u17, u18, u19, u20, u21, u22, u23, u24, u25, u26, u27, u28, true, true, u31, u32, u33, u34, u35, u36, u37, false, dm, rfl, rfl, zu kB, zf⟩
  ·intro h0 hd K hK
   have z : u31 = false := h0
   have z38_ : u38 = false := znb fun hu => z.symm.trans ((zu kF hu).2.2.2.2.2.2.2.2.2.2.2.2.2.2.2.2.2.2.2.2.2.2.2.2.2.2.2.2.2.2.2.1)
   have zd : u30 = true ∧ u29 = true := by
    simp [Region.binds] at hd
    simp [hd]
   obtain ⟨rfl, rfl⟩ := zd
   subst z38_
   subst z
   clear h0 hd
   rw [if_pos (by rfl)]
   have c0 := keep1 (zu kB) (zu HS7)
   go_simp
   exact zu hK _ _ ⟨u0, u1, u2, u3, u4, u5, u6, u7, u8, u9, u10, u11, u12, u13, u14, u15, u16, u17, u18, u19, u20, u21, u22, u23, u24, u25, u26, u27, u28, true, true, true, u32, u33, u34, u35, u36, u37, false, dm, rfl, rfl, zu kB, zf⟩
  ·intro h0 hd K hK
   have z : u32 = false := h0
   have z38_ : u38 = false := znb fun hu => z.symm.trans ((zu kF hu).2.2.2.2.2.2.2.2.2.2.2.2.2.2.2.2.2.2.2.2.2.2.2.2.2.2.2.2.2.2.2.2.1)
   have zd : u29 = true := by
    simp [Region.binds] at hd
    simp [hd]
   obtain ⟨rfl⟩ := zd
   subst z38_
   subst z
   clear h0 hd
   rw [if_pos (by rfl)]
   go_simp
   exact zu hK _ _ ⟨u0, u1, u2, u3, u4, u5, u6, u7, u8, u9, u10, u11, u12, u13, u14, u15, u16, u17, u18, u19, u20, u21, u22, u23, u24, u25, u26, u27, u28, true, u30, u31, true, u33, u34, u35, u36, u37, false, dm, rfl, rfl, zu kB, zf⟩
  ·intro h0 hd K hK
   have z : u33 = false := h0
   have z38_ : u38 = false := znb fun hu => z.symm.trans ((zu kF hu).2.2.2.2.2.2.2.2.2.2.2.2.2.2.2.2.2.2.2.2.2.2.2.2.2.2.2.2.2.2.2.2.2.1)
   have zd : u32 = true ∧ u29 = true := by
    simp [Region.binds] at hd
    simp [hd]
   obtain ⟨rfl, rfl⟩ := zd
   subst z38_
   subst z
   clear h0 hd
   rw [if_pos (by rfl)]
   have c0 := keep1 (zu kB) (zu HR7)
   go_simp
   exact zu hK _ _ ⟨u0, u1, u2, u3, u4, u5, u6, u7, u8, u9, u10, u11, u12, u13, u14, u15, u16, u17, u18, u19, u20, u21, u22, u23, u24, u25, u26, u27, u28, true, u30, u31, true, true, u34, u35, u36, u37, false, dm, rfl, rfl, zu kB, zf⟩
  ·intro h0 hd K hK
   have z : u34 = false := h0
   have z38_ : u38 = false := znb fun hu => z.symm.trans ((zu kF hu).2.2.2.2.2.2.2.2.2.2.2.2.2.2.2.2.2.2.2.2.2.2.2.2.2.2.2.2.2.2.2.2.2.2.1)
   have zd : u31 = true ∧ u33 = true ∧ u29 = true := by
    simp [Region.binds] at hd
    simp [hd]
   obtain ⟨rfl, rfl, rfl⟩ := zd
   subst z38_
   subst z
   clear h0 hd
   rw [if_pos (by rfl)]
   go_simp
   exact zu hK _ _ ⟨u0, u1, u2, u3, u4, u5, u6, u7, u8, u9, u10, u11, u12, u13, u14, u15, u16, u17, u18, u19, u20, u21, u22, u23, u24, u25, u26, u27, u28, true, u30, true, u32, true, true, u35, u36, u37, false, dm, rfl, rfl, zu kB, zf⟩
  ·intro h0 hd K hK
   have z : u35 = false := h0
   have z38_ : u38 = false := znb fun hu => z.symm.trans ((zu kF hu).2.2.2.2.2.2.2.2.2.2.2.2.2.2.2.2.2.2.2.2.2.2.2.2.2.2.2.2.2.2.2.2.2.2.2.1)
   have zd : u29 = true ∧ u34 = true ∧ u9 = true := by
    simp [Region.binds] at hd
    simp [hd]
   obtain ⟨rfl, rfl, rfl⟩ := zd
   subst z38_
   subst z
   clear h0 hd
   rw [if_pos (by rfl)]
   go_simp
   exact zu hK _ _ ⟨u0, u1, u2, u3, u4, u5, u6, u7, u8, true, u10, u11, u12, u13, u14, u15, u16, u17, u18, u19, u20, u21, u22, u23, u24, u25, u26, u27, u28, true, u30, u31, u32, u33, true, true, u36, u37, false, dm, rfl, rfl, zu kB, zf⟩
  ·intro h0 hd K hK
   have z : u36 = false := h0
   have z38_ : u38 = false := znb fun hu => z.symm.trans ((zu kF hu).2.2.2.2.2.2.2.2.2.2.2.2.2.2.2.2.2.2.2.2.2.2.2.2.2.2.2.2.2.2.2.2.2.2.2.2.1)
   have zd : u9 = true ∧ u35 = true ∧ u2 = true := by
    simp [Region.binds] at hd
    simp [hd]
   obtain ⟨rfl, rfl, rfl⟩ := zd
   subst z38_
   subst z
   clear h0 hd
   rw [if_pos (by rfl)]
   go_simp
   exact zu hK _ _ ⟨u0, u1, true, u3, u4, u5, u6, u7, u8, true, u10, u11, u12, u13, u14, u15, u16, u17, u18, u19, u20, u21, u22, u23, u24, u25, u26, u27, u28, u29, u30, u31, u32, u33, u34, true, true, u37, false, dm, rfl, rfl, zu kB, zf⟩
  ·intro h0 hd K hK
   have z : u37 = false := h0
   have z38_ : u38 = false := znb fun hu => z.symm.trans ((zu kF hu).2.2.2.2.2.2.2.2.2.2.2.2.2.2.2.2.2.2.2.2.2.2.2.2.2.2.2.2.2.2.2.2.2.2.2.2.2)
   have zd : u2 = true ∧ u36 = true := by
    simp [Region.binds] at hd
    simp [hd]
   obtain ⟨rfl, rfl⟩ := zd
   subst z38_
   subst z
   clear h0 hd
   rw [if_pos (by rfl)]
   go_simp
   exact zu hK _ _ ⟨u0, u1, true, u3, u4, u5, u6, u7, u8, u9, u10, u11, u12, u13, u14, u15, u16, u17, u18, u19, u20, u21, u22, u23, u24, u25, u26, u27, u28, u29, u30, u31, u32, u33, u34, u35, true, true, false, dm, rfl, rfl, zu kB, zf⟩
  ·intro h0 hd K hK
   have z : u38 = false := h0
   have zd0 : u0 = true ∧ u1 = true ∧ u2 = true ∧ u3 = true ∧ u4 = true ∧ u5 = true ∧ u6 = true ∧ u7 = true ∧ u8 = true ∧ u9 = true ∧ u10 = true ∧ u11 = true ∧ u12 = true ∧ u13 = true ∧ u14 = true ∧ u15 = true ∧ u16 = true ∧ u17 = true ∧ u18 = true ∧ u19 = true ∧ u20 = true ∧ u21 = true ∧ u22 = true ∧ u23 = true ∧ u24 = true ∧ u25 = true ∧ u26 = true ∧ u27 = true ∧ u28 = true ∧ u29 = true ∧ u30 = true ∧ u31 = true ∧ u32 = true ∧ u33 = true ∧ u34 = true ∧ u35 = true ∧ u36 = true ∧ u37 = true := by
    simp [Region.binds] at hd
    simp [hd]
   have zd : u0 = true ∧ u1 = true ∧ u2 = true ∧ u3 = true ∧ u4 = true ∧ u5 = true ∧ u6 = true ∧ u7 = true ∧ u8 = true ∧ u9 = true ∧ u10 = true ∧ u11 = true ∧ u12 = true ∧ u13 = true ∧ u14 = true ∧ u15 = true ∧ u16 = true ∧ u17 = true ∧ u18 = true ∧ u19 = true ∧ u20 = true ∧ u21 = true ∧ u22 = true ∧ u23 = true ∧ u24 = true ∧ u25 = true ∧ u26 = true ∧ u27 = true ∧ u28 = true ∧ u29 = true ∧ u30 = true ∧ u31 = true ∧ u32 = true ∧ u33 = true ∧ u34 = true ∧ u35 = true ∧ u36 = true ∧ u37 = true := ⟨zd0.1, zd0.2.1, zd0.2.2.1, zd0.2.2.2.1, zd0.2.2.2.2.1, zd0.2.2.2.2.2.1, zd0.2.2.2.2.2.2.1, zd0.2.2.2.2.2.2.2.1, zd0.2.2.2.2.2.2.2.2.1, zd0.2.2.2.2.2.2.2.2.2.1, zd0.2.2.2.2.2.2.2.2.2.2.1, zd0.2.2.2.2.2.2.2.2.2.2.2.1, zd0.2.2.2.2.2.2.2.2.2.2.2.2.1, zd0.2.2.2.2.2.2.2.2.2.2.2.2.2.1, zd0.2.2.2.2.2.2.2.2.2.2.2.2.2.2.1, zd0.2.2.2.2.2.2.2.2.2.2.2.2.2.2.2.1, zd0.2.2.2.2.2.2.2.2.2.2.2.2.2.2.2.2.1, zd0.2.2.2.2.2.2.2.2.2.2.2.2.2.2.2.2.2.1, zd0.2.2.2.2.2.2.2.2.2.2.2.2.2.2.2.2.2.2.1, zd0.2.2.2.2.2.2.2.2.2.2.2.2.2.2.2.2.2.2.2.1, zd0.2.2.2.2.2.2.2.2.2.2.2.2.2.2.2.2.2.2.2.2.1, zd0.2.2.2.2.2.2.2.2.2.2.2.2.2.2.2.2.2.2.2.2.2.1, zd0.2.2.2.2.2.2.2.2.2.2.2.2.2.2.2.2.2.2.2.2.2.2.1, zd0.2.2.2.2.2.2.2.2.2.2.2.2.2.2.2.2.2.2.2.2.2.2.2.1, zd0.2.2.2.2.2.2.2.2.2.2.2.2.2.2.2.2.2.2.2.2.2.2.2.2.1, zd0.2.2.2.2.2.2.2.2.2.2.2.2.2.2.2.2.2.2.2.2.2.2.2.2.2.1, zd0.2.2.2.2.2.2.2.2.2.2.2.2.2.2.2.2.2.2.2.2.2.2.2.2.2.2.1, zd0.2.2.2.2.2.2.2.2.2.2.2.2.2.2.2.2.2.2.2.2.2.2.2.2.2.2.2.1, zd0.2.2.2.2.2.2.2.2.2.2.2.2.2.2.2.2.2.2.2.2.2.2.2.2.2.2.2.2.1, zd0.2.2.2.2.2.2.2.2.2.2.2.2.2.2.2.2.2.2.2.2.2.2.2.2.2.2.2.2.2.1, zd0.2.2.2.2.2.2.2.2.2.2.2.2.2.2.2.2.2.2.2.2.2.2.2.2.2.2.2.2.2.2.1, zd0.2.2.2.2.2.2.2.2.2.2.2.2.2.2.2.2.2.2.2.2.2.2.2.2.2.2.2.2.2.2.2.1, zd0.2.2.2.2.2.2.2.2.2.2.2.2.2.2.2.2.2.2.2.2.2.2.2.2.2.2.2.2.2.2.2.2.1, zd0.2.2.2.2.2.2.2.2.2.2.2.2.2.2.2.2.2.2.2.2.2.2.2.2.2.2.2.2.2.2.2.2.2.1, zd0.2.2.2.2.2.2.2.2.2.2.2.2.2.2.2.2.2.2.2.2.2.2.2.2.2.2.2.2.2.2.2.2.2.2.1, zd0.2.2.2.2.2.2.2.2.2.2.2.2.2.2.2.2.2.2.2.2.2.2.2.2.2.2.2.2.2.2.2.2.2.2.2.1, zd0.2.2.2.2.2.2.2.2.2.2.2.2.2.2.2.2.2.2.2.2.2.2.2.2.2.2.2.2.2.2.2.2.2.2.2.2.1, zd0.2.2.2.2.2.2.2.2.2.2.2.2.2.2.2.2.2.2.2.2.2.2.2.2.2.2.2.2.2.2.2.2.2.2.2.2.2⟩
   obtain ⟨rfl, rfl, rfl, rfl, rfl, rfl, rfl, rfl, rfl, rfl, rfl, rfl, rfl, rfl, rfl, rfl, rfl, rfl, rfl, rfl, rfl, rfl, rfl, rfl, rfl, rfl, rfl, rfl, rfl, rfl, rfl, rfl, rfl, rfl, rfl, rfl, rfl, rfl⟩ := zd
   subst z
   clear h0 hd
   rw [if_pos (by rfl)]
   go_simp
   exact zu hK _ _ ⟨true, true, true, true, true, true, true, true, true, true, true, true, true, true, true, true, true, true, true, true, true, true, true, true, true, true, true, true, true, true, true, true, true, true, true, true, true, true, true, dm, rfl, rfl, zu kB, (fun _ => ⟨rfl, rfl, rfl, rfl, rfl, rfl, rfl, rfl, rfl, rfl, rfl, rfl, rfl, rfl, rfl, rfl, rfl, rfl, rfl, rfl, rfl, rfl, rfl, rfl, rfl, rfl, rfl, rfl, rfl, rfl, rfl, rfl, rfl, rfl, rfl, rfl, rfl, rfl⟩)⟩
 case hend =>
  intro Lb A W hI
  obtain ⟨u0, u1, u2, u3, u4, hI⟩ := hI
  obtain ⟨u5, u6, u7, u8, u9, hI⟩ := hI
  obtain ⟨u10, u11, u12, u13, u14, hI⟩ := hI
  obtain ⟨u15, u16, u17, u18, u19, hI⟩ := hI
  obtain ⟨u20, u21, u22, u23, u24, hI⟩ := hI
  obtain ⟨u25, u26, u27, u28, u29, hI⟩ := hI
  obtain ⟨u30, u31, u32, u33, u34, hI⟩ := hI
  obtain ⟨u35, u36, u37, u38, dm, hI⟩ := hI
  obtain ⟨hLb, hI⟩ := hI
  obtain ⟨hA, hI⟩ := hI
  obtain ⟨kB, hI⟩ := hI
  have kF := hI
  clear hI
  subst hLb
  subst hA
  intro hL
  have hl : u0 = true ∧ u1 = true ∧ u2 = true ∧ u3 = true ∧ u4 = true ∧ u5 = true ∧ u6 = true ∧ u7 = true ∧ u8 = true ∧ u9 = true ∧ u10 = true ∧ u11 = true ∧ u12 = true ∧ u13 = true ∧ u14 = true ∧ u15 = true ∧ u16 = true ∧ u17 = true ∧ u18 = true ∧ u19 = true ∧ u20 = true ∧ u21 = true ∧ u22 = true ∧ u23 = true ∧ u24 = true ∧ u25 = true ∧ u26 = true ∧ u27 = true ∧ u28 = true ∧ u29 = true ∧ u30 = true ∧ u31 = true ∧ u32 = true ∧ u33 = true ∧ u34 = true ∧ u35 = true ∧ u36 = true ∧ u37 = true ∧ u38 = true := by
   have h2 := congrArg Array.toList hL
   simpa [List.replicate] using h2
  obtain ⟨rfl, rfl, rfl, rfl, rfl, rfl, rfl, rfl, rfl, rfl, rfl, rfl, rfl, rfl, rfl, rfl, rfl, rfl, rfl, rfl, rfl, rfl, rfl, rfl, rfl, rfl, rfl, rfl, rfl, rfl, rfl, rfl, rfl, rfl, rfl, rfl, rfl, rfl, rfl⟩ := hl
  exact zu HQ  W kB
end Go.Proofs.Ytdcecfgmfmpeeaa
