/-
  The statement of the law on strips and circles that adds a point.
-/
import Derived.Test.YtdcecfgmfmpeeaaFzrq
import Derived.Test.YtdcecfgmfmpeeaaApNq
import Derived.Test.YtdcecfgmfmpeeaaHtaq
namespace Go.Proofs.Ytdcecfgmfmpeeaa
open Go.ChangeShapes Go.WideShapes Go.ChangeAt Go.RowKit
set_option linter.unusedVariables false
set_option linter.unusedSimpArgs false
theorem row_empty {W : World} {g t k B : Nat} (hc : cb W g t []) (hB : B ≤ g) : Row W B t k (.slice (some ⟨g, 0, none⟩) 0 0) 0 [] :=
  ⟨by simp, .inr ⟨g, 0, #[], rfl, hB, hc, Nat.le_refl _, by decide, by simp, by simp⟩⟩
theorem keepI {V W : World} {b : Nat} {F : List Int} (h : Below V.heap.size V W) (hb : b < V.heap.size) (hI : IntsAt V b 0 F) : IntsAt W b 0 F := hI.below h hb
theorem src_of {W : World} {b : Nat} {F : List Int} (h : IntsAt W b 0 F) : ∀ j u, (F.map (Value.int .i64))[j]? = some u → W.cell? ((⟨b, 0, none⟩ : Addr).add j) = some u := by
 intro j u hj
 rw [add_none, Nat.zero_add]
 rw [List.getElem?_map] at hj
 cases hq : F[j]? with
 | none => rw [hq] at hj; cases hj
 | some x =>
  rw [hq] at hj
  cases hj
  have := h j x hq
  rwa [Nat.zero_add] at this
theorem src_cb {W : World} {g t : Nat} {x y : Int} (h : cb W g t [.int .i64 x, .int .i64 y]) : ∀ j u, ([x, y].map (Value.int .i64))[j]? = some u → W.cell? ((⟨g, 0, none⟩ : Addr).add j) = some u := by
 intro j u hj
 rw [add_none, Nat.zero_add]
 exact h.cell hj
set_option maxHeartbeats 4000000 in
set_option maxRecDepth 100000 in
theorem fz49 {s0 s1 s2 s3 s4 s6 s7 s8 s9 s10 s11 s12 s13 s14 s15 s16 s17 s18 s19 s20 s21 s22 s23 s24 s25 s26 s27 s28 s31 s32 s33 s34 s35 s36 s37 s38 s39 s40 s41 s42 s43 s44 s45 s46 s47 s48 s49 s50 s51 s52 s53 s54 s55 s56 s57 s58 s59 s60 s61 s62 s63 s64 s65 s66 s67 s68 s69 s70 s71 s72 s73 s74 s75 s76 s77 s78 s79 s80 s81 s82 s83 s84 s85 s86 s87 s88 s89 s90 s91 s92 s93 s94 s95 s96 s97 s98 s99 s100 s101 s102 s103 s104 s105 s106 s107 s108 s109 s110 s111 s112 s113 s114 s115 s116 s117 s118 s119 s120 s121 s122 s123 s124 s125 s126 s127 s128 s129 s130 s131 s132 s133 s134 s135 s136 s137 s138 s139 s140 s141 s142 s143 s144 s145 s146 s147 s148 s149 s150 s151 s152 s153 s154 s155 s156 s157 s158 s159 s160 s161 s162 s163 s164 s165 s166 s167 s168 s169 s170 s171 s172 s173 s174 s175 s176 s177 s178 s179 s180 s181 s182 s183 s184 s185 s186 s187 s188 s189 s190 s191 s192 s193 s194 s195 s196 s197 s198 s199 s200 s201 s202 s203 s204 s205 s206 s207 s208 s209 s210 s211 s212 s213 s214 s215 s216 s217 s218 s219 s220 s221 s222 s223 s224 s225 s226 s227 s228 s229 s230 s231 s232 s233 s234 s235 s236 s237 s238 s239 s240 s241 s242 s243 s244 s245 s246 s247 s248 s249 s250 s251 s252 s253 s254 s255 s256 s257 s258 s259 s260 s261 s262 s263 s264 s265 s266 s267 s268 s269 s270 s271 s272 s273 s274 s275 s276 s277 s278 s279 s280 s281 s282 s283 s284 s285 s286 s287 s288 s289 s290 s291 s292 s293 s294 s295 s296 s297 s298 s299 s300 s301 s302 s303 s304 s305 s306 s307 s308 s309 s310 s311 s312 s313 s314 s315 s316 s317 s318 s319 s320 s321 s322 s323 s324 s325 s326 s327 s328 s329 s330 s331 s332 s333 s334 s335 s336 s337 s338 s339 s340 s341 s342 s343 s344 s345 s346 s347 s348 s349 s350 s351 s352 s353 s354 s355 s356 s357 s358 s359 s360 s361 s362 s363 s364 s365 s366 s367 s368 s369 s370 s371 : Value} {b n cap b29 b30 : Nat} {F : List Int} {x1 y1 x2 y2 sx sy mx my t0 t1 t2 t3 X Y D N : Int} {V : World} {K_ : Act → World → Prop} (hb : b < V.heap.size) (hn : n ≤ 200) (HI : Hid (IntsAt V b 0 F)) (HFL : Hid (F.length = n * 2))
  (HA0 : Hid (V.cell? ⟨b29, 0, none⟩ = some (.int .i64 x1))) (HA1 : Hid (V.cell? ⟨b29, 1, none⟩ = some (.int .i64 y1))) (HC0 : Hid (V.cell? ⟨b30, 0, none⟩ = some (.int .i64 x2))) (HC1 : Hid (V.cell? ⟨b30, 1, none⟩ = some (.int .i64 y2)))
  (HWx : Hid (IntKind.i64.wrap (x1 + x2) = sx)) (HQx : Hid (sx.tdiv 2 = mx ∧ IntKind.i64.wrap mx = mx)) (HWy : Hid (IntKind.i64.wrap (y1 + y2) = sy)) (HQy : Hid (sy.tdiv 2 = my ∧ IntKind.i64.wrap my = my))
  (HF : Hid (∀ (Xw : World) (v : Value), Below V.heap.size V Xw → Row Xw V.heap.size 30 2 v (n + 1) (F ++ [mx, my]) → Calls Try.prog 10 #[v] Xw fun e w' => e = .returned (.tuple #[.agg #[.int .i64 (t0), .int .i64 (t1), .int .i64 (t2), .int .i64 (t3), .int .i64 (X), .int .i64 (Y), .int .i64 (D), .int .i64 (N)], .int .i64 0]) ∧ Below Xw.heap.size Xw w'))
  (hQ : ∀ (n0 n16 n22 : Nat) (r2 r17 : Value) (W1 : World), Below V.heap.size V W1 → cb W1 n22 34 [.int .i64 (t0), .int .i64 (t1), .int .i64 (t2), .int .i64 (t3), .int .i64 (X), .int .i64 (Y), .int .i64 (D), .int .i64 (N)] → V.heap.size ≤ n22 → K_ { tmps := #[s0, s1, s2, s3, s4, .slice (some ⟨b, 0, none⟩) n cap, s6, s7, s8, s9, s10, s11, s12, s13, s14, s15, s16, s17, s18, s19, s20, s21, s22, s23, s24, s25, s26, s27, s28, .pointer (some ⟨b29, 0, none⟩), .pointer (some ⟨b30, 0, none⟩), .pointer (some ⟨n22, 0, none⟩), .int .i64 0, s33, s34, s35, s36, s37, s38, s39, s40, s41, s42, s43, s44, s45, s46, s47, s48, s49, s50, s51, s52, s53, s54, s55, s56, s57, s58, s59, s60, s61, s62, s63, s64, s65, s66, s67, s68, s69, s70, s71, s72, s73, s74, s75, s76, s77, s78, s79, s80, s81, s82, s83, s84, s85, s86, s87, s88, s89, s90, s91, s92, s93, s94, s95, s96, s97, s98, s99, s100, s101, s102, s103, s104, s105, s106, s107, s108, s109, s110, s111, s112, s113, s114, s115, s116, s117, s118, s119, s120, s121, s122, s123, s124, s125, s126, s127, s128, s129, s130, s131, s132, s133, s134, s135, s136, s137, s138, s139, s140, s141, s142, s143, s144, s145, s146, s147, s148, s149, s150, s151, s152, s153, s154, s155, s156, s157, s158, s159, s160, s161, s162, s163, s164, s165, s166, s167, s168, s169, s170, s171, s172, s173, s174, s175, s176, s177, s178, s179, s180, s181, s182, s183, s184, s185, s186, s187, s188, s189, s190, s191, s192, s193, s194, s195, s196, s197, s198, s199, s200, s201, s202, s203, s204, s205, s206, s207, s208, s209, s210, s211, s212, s213, s214, s215, s216, s217, s218, s219, s220, s221, s222, s223, s224, s225, s226, s227, s228, s229, s230, s231, s232, s233, s234, s235, s236, s237, s238, s239, s240, s241, s242, s243, s244, s245, s246, s247, s248, s249, s250, s251, s252, s253, s254, s255, s256, s257, s258, s259, s260, s261, s262, s263, s264, s265, s266, s267, s268, s269, s270, s271, s272, s273, s274, s275, s276, s277, s278, s279, s280, s281, s282, s283, s284, s285, s286, s287, s288, s289, s290, s291, s292, s293, s294, s295, s296, s297, s298, .tuple #[.agg #[.int .i64 (t0), .int .i64 (t1), .int .i64 (t2), .int .i64 (t3), .int .i64 (X), .int .i64 (Y), .int .i64 (D), .int .i64 (N)], .int .i64 0], .slice (some ⟨n0, 0, none⟩) 0 0, .slice (some ⟨b, 0, none⟩) n cap, r2, .pointer (some ⟨b29, 0, none⟩), .int .i64 (x1), .pointer (some ⟨b30, 0, none⟩), .int .i64 (x2), .int .i64 (sx), .int .i64 (mx), .pointer (some ⟨b29, 1, none⟩), .int .i64 (y1), .pointer (some ⟨b30, 1, none⟩), .int .i64 (y2), .int .i64 (sy), .int .i64 (my), .agg #[.int .i64 mx, .int .i64 my], .slice (some ⟨n16, 0, none⟩) 1 1, r17, .tuple #[.agg #[.int .i64 (t0), .int .i64 (t1), .int .i64 (t2), .int .i64 (t3), .int .i64 (X), .int .i64 (Y), .int .i64 (D), .int .i64 (N)], .int .i64 0], .agg #[.int .i64 (t0), .int .i64 (t1), .int .i64 (t2), .int .i64 (t3), .int .i64 (X), .int .i64 (Y), .int .i64 (D), .int .i64 (N)], .int .i64 0, s321, s322, s323, s324, s325, s326, s327, s328, s329, s330, s331, s332, s333, s334, s335, s336, s337, s338, s339, s340, s341, s342, s343, s344, s345, s346, s347, s348, s349, s350, s351, s352, s353, s354, s355, s356, s357, s358, s359, s360, s361, s362, s363, s364, s365, s366, s367, s368, s369, s370, s371], defers := [] } W1) :
  Go.Code.wp Try.prog (rg3 49) (Only K_) { tmps := #[s0, s1, s2, s3, s4, .slice (some ⟨b, 0, none⟩) n cap, s6, s7, s8, s9, s10, s11, s12, s13, s14, s15, s16, s17, s18, s19, s20, s21, s22, s23, s24, s25, s26, s27, s28, .pointer (some ⟨b29, 0, none⟩), .pointer (some ⟨b30, 0, none⟩), s31, s32, s33, s34, s35, s36, s37, s38, s39, s40, s41, s42, s43, s44, s45, s46, s47, s48, s49, s50, s51, s52, s53, s54, s55, s56, s57, s58, s59, s60, s61, s62, s63, s64, s65, s66, s67, s68, s69, s70, s71, s72, s73, s74, s75, s76, s77, s78, s79, s80, s81, s82, s83, s84, s85, s86, s87, s88, s89, s90, s91, s92, s93, s94, s95, s96, s97, s98, s99, s100, s101, s102, s103, s104, s105, s106, s107, s108, s109, s110, s111, s112, s113, s114, s115, s116, s117, s118, s119, s120, s121, s122, s123, s124, s125, s126, s127, s128, s129, s130, s131, s132, s133, s134, s135, s136, s137, s138, s139, s140, s141, s142, s143, s144, s145, s146, s147, s148, s149, s150, s151, s152, s153, s154, s155, s156, s157, s158, s159, s160, s161, s162, s163, s164, s165, s166, s167, s168, s169, s170, s171, s172, s173, s174, s175, s176, s177, s178, s179, s180, s181, s182, s183, s184, s185, s186, s187, s188, s189, s190, s191, s192, s193, s194, s195, s196, s197, s198, s199, s200, s201, s202, s203, s204, s205, s206, s207, s208, s209, s210, s211, s212, s213, s214, s215, s216, s217, s218, s219, s220, s221, s222, s223, s224, s225, s226, s227, s228, s229, s230, s231, s232, s233, s234, s235, s236, s237, s238, s239, s240, s241, s242, s243, s244, s245, s246, s247, s248, s249, s250, s251, s252, s253, s254, s255, s256, s257, s258, s259, s260, s261, s262, s263, s264, s265, s266, s267, s268, s269, s270, s271, s272, s273, s274, s275, s276, s277, s278, s279, s280, s281, s282, s283, s284, s285, s286, s287, s288, s289, s290, s291, s292, s293, s294, s295, s296, s297, s298, s299, s300, s301, s302, s303, s304, s305, s306, s307, s308, s309, s310, s311, s312, s313, s314, s315, s316, s317, s318, s319, s320, s321, s322, s323, s324, s325, s326, s327, s328, s329, s330, s331, s332, s333, s334, s335, s336, s337, s338, s339, s340, s341, s342, s343, s344, s345, s346, s347, s348, s349, s350, s351, s352, s353, s354, s355, s356, s357, s358, s359, s360, s361, s362, s363, s364, s365, s366, s367, s368, s369, s370, s371], defers := [] } V := by
 obtain ⟨iP, hi1, hy0, hy1, hy2⟩ := info_parts info26
 have HQ := hide hQ
 clear hQ
 conv => arg 2; whnf
 refine wp_region_inv2 (fun Lb A W => ∃ (u0 u1 u2 u3 u4 u5 u6 u7 u8 u9 u10 u11 u12 u13 u14 u15 u16 u17 u18 u19 u20 u21 u22 u23 u24 : Bool) (n0 : Nat) (n16 : Nat) (n22 : Nat) (r2 : Value) (r17 : Value), Lb = #[u0, u1, u2, u3, u4, u5, u6, u7, u8, u9, u10, u11, u12, u13, u14, u15, u16, u17, u18, u19, u20, u21, u22, u23, u24] ∧ A = ({ tmps := #[s0, s1, s2, s3, s4, .slice (some ⟨b, 0, none⟩) n cap, s6, s7, s8, s9, s10, s11, s12, s13, s14, s15, s16, s17, s18, s19, s20, s21, s22, s23, s24, s25, s26, s27, s28, .pointer (some ⟨b29, 0, none⟩), .pointer (some ⟨b30, 0, none⟩), (bif u22 then .pointer (some ⟨n22, 0, none⟩) else s31), (bif u24 then .int .i64 0 else s32), s33, s34, s35, s36, s37, s38, s39, s40, s41, s42, s43, s44, s45, s46, s47, s48, s49, s50, s51, s52, s53, s54, s55, s56, s57, s58, s59, s60, s61, s62, s63, s64, s65, s66, s67, s68, s69, s70, s71, s72, s73, s74, s75, s76, s77, s78, s79, s80, s81, s82, s83, s84, s85, s86, s87, s88, s89, s90, s91, s92, s93, s94, s95, s96, s97, s98, s99, s100, s101, s102, s103, s104, s105, s106, s107, s108, s109, s110, s111, s112, s113, s114, s115, s116, s117, s118, s119, s120, s121, s122, s123, s124, s125, s126, s127, s128, s129, s130, s131, s132, s133, s134, s135, s136, s137, s138, s139, s140, s141, s142, s143, s144, s145, s146, s147, s148, s149, s150, s151, s152, s153, s154, s155, s156, s157, s158, s159, s160, s161, s162, s163, s164, s165, s166, s167, s168, s169, s170, s171, s172, s173, s174, s175, s176, s177, s178, s179, s180, s181, s182, s183, s184, s185, s186, s187, s188, s189, s190, s191, s192, s193, s194, s195, s196, s197, s198, s199, s200, s201, s202, s203, s204, s205, s206, s207, s208, s209, s210, s211, s212, s213, s214, s215, s216, s217, s218, s219, s220, s221, s222, s223, s224, s225, s226, s227, s228, s229, s230, s231, s232, s233, s234, s235, s236, s237, s238, s239, s240, s241, s242, s243, s244, s245, s246, s247, s248, s249, s250, s251, s252, s253, s254, s255, s256, s257, s258, s259, s260, s261, s262, s263, s264, s265, s266, s267, s268, s269, s270, s271, s272, s273, s274, s275, s276, s277, s278, s279, s280, s281, s282, s283, s284, s285, s286, s287, s288, s289, s290, s291, s292, s293, s294, s295, s296, s297, s298, (bif u19 then .tuple #[.agg #[.int .i64 (t0), .int .i64 (t1), .int .i64 (t2), .int .i64 (t3), .int .i64 (X), .int .i64 (Y), .int .i64 (D), .int .i64 (N)], .int .i64 0] else s299), (bif u0 then .slice (some ⟨n0, 0, none⟩) 0 0 else s300), (bif u1 then .slice (some ⟨b, 0, none⟩) n cap else s301), (bif u2 then r2 else s302), (bif u3 then .pointer (some ⟨b29, 0, none⟩) else s303), (bif u4 then .int .i64 (x1) else s304), (bif u5 then .pointer (some ⟨b30, 0, none⟩) else s305), (bif u6 then .int .i64 (x2) else s306), (bif u7 then .int .i64 (sx) else s307), (bif u8 then .int .i64 (mx) else s308), (bif u9 then .pointer (some ⟨b29, 1, none⟩) else s309), (bif u10 then .int .i64 (y1) else s310), (bif u11 then .pointer (some ⟨b30, 1, none⟩) else s311), (bif u12 then .int .i64 (y2) else s312), (bif u13 then .int .i64 (sy) else s313), (bif u14 then .int .i64 (my) else s314), (bif u15 then .agg #[.int .i64 mx, .int .i64 my] else s315), (bif u16 then .slice (some ⟨n16, 0, none⟩) 1 1 else s316), (bif u17 then r17 else s317), (bif u18 then .tuple #[.agg #[.int .i64 (t0), .int .i64 (t1), .int .i64 (t2), .int .i64 (t3), .int .i64 (X), .int .i64 (Y), .int .i64 (D), .int .i64 (N)], .int .i64 0] else s318), (bif u20 then .agg #[.int .i64 (t0), .int .i64 (t1), .int .i64 (t2), .int .i64 (t3), .int .i64 (X), .int .i64 (Y), .int .i64 (D), .int .i64 (N)] else s319), (bif u21 then .int .i64 0 else s320), s321, s322, s323, s324, s325, s326, s327, s328, s329, s330, s331, s332, s333, s334, s335, s336, s337, s338, s339, s340, s341, s342, s343, s344, s345, s346, s347, s348, s349, s350, s351, s352, s353, s354, s355, s356, s357, s358, s359, s360, s361, s362, s363, s364, s365, s366, s367, s368, s369, s370, s371], defers := [] } : Act) ∧ Below V.heap.size V W ∧ (u0 = true → u2 = false → cb W n0 30 [] ∧ V.heap.size ≤ n0) ∧ (u2 = true → u17 = false → Row W V.heap.size 30 2 r2 n F) ∧ (u16 = true → u17 = false → cb W n16 30 [.int .i64 mx, .int .i64 my] ∧ V.heap.size ≤ n16) ∧ (u17 = true → u18 = false → Row W V.heap.size 30 2 r17 (n + 1) (F ++ [mx, my])) ∧ (u22 = true → cb W n22 34 (bif u23 then [.int .i64 (t0), .int .i64 (t1), .int .i64 (t2), .int .i64 (t3), .int .i64 (X), .int .i64 (Y), .int .i64 (D), .int .i64 (N)] else [.int .i64 0, .int .i64 0, .int .i64 0, .int .i64 0, .int .i64 0, .int .i64 0, .int .i64 0, .int .i64 0]) ∧ V.heap.size ≤ n22) ∧ (u0 = true → u2 = false → u16 = true → n0 ≠ n16) ∧ (u0 = true → u2 = false → u22 = true → n0 ≠ n22) ∧ (u2 = true → u17 = false → u22 = true → ∀ q, r2.ownBlock = some q → q ≠ n22) ∧ (u2 = true → u0 = true ∧ u1 = true) ∧ (u17 = true → u2 = true ∧ u16 = true) ∧ (u18 = true → u17 = true) ∧ (u19 = true → u18 = true) ∧ (u20 = true → u19 = true) ∧ (u23 = true → u22 = true ∧ u20 = true ∧ u18 = true ∧ u17 = true ∧ u2 = true) ∧ (u24 = true → u0 = true ∧ u1 = true ∧ u2 = true ∧ u3 = true ∧ u4 = true ∧ u5 = true ∧ u6 = true ∧ u7 = true ∧ u8 = true ∧ u9 = true ∧ u10 = true ∧ u11 = true ∧ u12 = true ∧ u13 = true ∧ u14 = true ∧ u15 = true ∧ u16 = true ∧ u17 = true ∧ u18 = true ∧ u19 = true ∧ u20 = true ∧ u21 = true ∧ u22 = true ∧ u23 = true)) (by kernel_rfl) (by kernel_rfl) ?h0 ?hstep ?hend
 case h0 =>
  exact ⟨false, false, false, false, false, false, false, false, false, false, false, false, false, false, false, false, false, false, false, false, false, false, false, false, false, 0, 0, 0, undef, undef, rfl, rfl, Below.drew (Below.refl _ _), zf, zf, zf, zf, zf, zf, zf, zf, zf, zf, zf, zf, zf, zf, zf⟩
 case hstep =>
  intro Lb A W hI
  obtain ⟨u0, u1, u2, u3, u4, hI⟩ := hI
  obtain ⟨u5, u6, u7, u8, u9, hI⟩ := hI
  obtain ⟨u10, u11, u12, u13, u14, hI⟩ := hI
  obtain ⟨u15, u16, u17, u18, u19, hI⟩ := hI
  obtain ⟨u20, u21, u22, u23, u24, hI⟩ := hI
  obtain ⟨n0, n16, n22, r2, r17, hI⟩ := hI
  obtain ⟨hLb, hI⟩ := hI
  obtain ⟨hA, hI⟩ := hI
  obtain ⟨kB, hI⟩ := hI
  obtain ⟨k0, hI⟩ := hI
  obtain ⟨kR, hI⟩ := hI
  obtain ⟨k16, hI⟩ := hI
  obtain ⟨kS, hI⟩ := hI
  obtain ⟨k22, hI⟩ := hI
  obtain ⟨kn16, hI⟩ := hI
  obtain ⟨kn22, hI⟩ := hI
  obtain ⟨kd, hI⟩ := hI
  obtain ⟨l2, hI⟩ := hI
  obtain ⟨l17, hI⟩ := hI
  obtain ⟨l18, hI⟩ := hI
  obtain ⟨l19, hI⟩ := hI
  obtain ⟨l20, hI⟩ := hI
  obtain ⟨l23, hI⟩ := hI
  have kF := hI
  clear hI
  subst hLb
  subst hA
  replace kB := hide kB
  replace k0 := hide k0
  replace kR := hide kR
  replace k16 := hide k16
  replace kS := hide kS
  replace k22 := hide k22
  replace kn16 := hide kn16
  replace kn22 := hide kn22
  replace kd := hide kd
  replace l2 := hide l2
  replace l17 := hide l17
  replace l18 := hide l18
  replace l19 := hide l19
  replace l20 := hide l20
  replace l23 := hide l23
  replace kF := hide kF
  refine ⟨?_, ?_, ?_, ?_, ?_, ?_, ?_, ?_, ?_, ?_, ?_, ?_, ?_, ?_, ?_, ?_, ?_, ?_, ?_, ?_, ?_, ?_, ?_, ?_, ?_, trivial⟩
  ·intro h0 hd K hK
   have z : u0 = false := h0
   have z24_ : u24 = false := znb fun hu => z.symm.trans ((zu kF hu).1)
   have z2_ : u2 = false := znb fun hu => z.symm.trans ((zu l2 hu).1)
   have z17_ : u17 = false := znb fun hu => z.symm.trans ((zu l2 (zu l17 hu).1).1)
   have z18_ : u18 = false := znb fun hu => z.symm.trans ((zu l2 (zu l17 (zu l18 hu)).1).1)
   have z23_ : u23 = false := znb fun hu => z.symm.trans ((zu l2 (zu l17 (zu l18 (zu l19 (zu l20 (zu l23 hu).2.1)))).1).1)
   subst z24_
   subst z2_
   subst z17_
   subst z18_
   subst z23_
   subst z
   clear h0 hd
   rw [if_pos (by rfl)]
   go_simp
   exact zu hK _ _ ⟨true, u1, false, u3, u4, u5, u6, u7, u8, u9, u10, u11, u12, u13, u14, u15, u16, false, false, u19, u20, u21, u22, false, false, W.heap.size, n16, n22, r2, r17, rfl, rfl, ba (zu kB) _, (fun _ _ => ⟨cb_new W 30 [] _ rfl, (zu kB).size⟩), zf, (fun h h2 => ⟨(zu k16 h h2).1.bel (ba (Below.refl _ _) _), (zu k16 h h2).2⟩), zf, (fun h => ⟨(zu k22 h).1.bel (ba (Below.refl _ _) _), (zu k22 h).2⟩), (fun _ _ h => by have := (zu k16 h rfl).1.lt; omega), (fun _ _ h => by have := (zu k22 h).1.lt; omega), zf, zf, zf, zf, zu l19, zu l20, zf, zf⟩
  ·intro h0 hd K hK
   have z : u1 = false := h0
   have z24_ : u24 = false := znb fun hu => z.symm.trans ((zu kF hu).2.1)
   subst z24_
   subst z
   clear h0 hd
   rw [if_pos (by rfl)]
   go_simp
   exact zu hK _ _ ⟨u0, true, u2, u3, u4, u5, u6, u7, u8, u9, u10, u11, u12, u13, u14, u15, u16, u17, u18, u19, u20, u21, u22, u23, false, n0, n16, n22, r2, r17, rfl, rfl, zu kB, zu k0, zu kR, zu k16, zu kS, zu k22, zu kn16, zu kn22, zu kd, (fun h => ⟨(zu l2 h).1, rfl⟩), zu l17, zu l18, zu l19, zu l20, zu l23, zf⟩
  ·intro h0 hd K hK
   have z : u2 = false := h0
   have z24_ : u24 = false := znb fun hu => z.symm.trans ((zu kF hu).2.2.1)
   have z17_ : u17 = false := znb fun hu => z.symm.trans ((zu l17 hu).1)
   have z18_ : u18 = false := znb fun hu => z.symm.trans ((zu l17 (zu l18 hu)).1)
   have z23_ : u23 = false := znb fun hu => z.symm.trans ((zu l17 (zu l18 (zu l19 (zu l20 (zu l23 hu).2.1)))).1)
   have zd : u0 = true ∧ u1 = true := by
    simp [Region.binds] at hd
    simp [hd]
   obtain ⟨rfl, rfl⟩ := zd
   subst z24_
   subst z17_
   subst z18_
   subst z23_
   subst z
   clear h0 hd
   rw [if_pos (by rfl)]
   obtain ⟨hp1, hp2⟩ := zu k0 rfl rfl
   have hF := keepI (zu kB) hb (zu HI)
   refine wp_append_new W (.tmp 300) (.tmp 301) 23 (by rfl) V.heap.size 30 iP _ 2 16 Try.underlying23 hi1 hy0 hy1 hy2 rfl (by decide) (.slice (some ⟨n0, 0, none⟩) 0 0) 0 (([] : List Int).map (Value.int .i64)) (by rfl) (row_empty hp1 hp2) ⟨b, 0, none⟩ n cap (F.map (Value.int .i64)) (by rfl) (by rw [List.length_map]; exact zu HFL) (src_of hF) ints_one (by unfold maxLen; omega) (by omega) (zu kB).size ?_
   intro r2' w1 hown' hgrow _ hnb
   have R := own_more (wr := W) (L := []) (news := F) (Below.refl _ _) (zu kB).size (row_empty hp1 hp2) hown' hgrow
   have R1 : Row w1 V.heap.size 30 2 r2' n F := by simpa using R.1
   exact zu hK _ _ ⟨true, true, true, u3, u4, u5, u6, u7, u8, u9, u10, u11, u12, u13, u14, u15, u16, false, false, u19, u20, u21, u22, false, false, n0, n16, n22, r2', r17, rfl, rfl, (zu kB).trans R.2, (fun _ => zt), (fun _ _ => R1), (fun h h2 => ⟨(hgrow.block n16 (zu k16 h h2).1.lt (fun e => zu kn16 rfl rfl h (by simp [Value.ownBlock] at e; omega))).trans (zu k16 h h2).1, (zu k16 h h2).2⟩), zf, (fun h => ⟨(hgrow.block n22 (zu k22 h).1.lt (fun e => zu kn22 rfl rfl h (by simp [Value.ownBlock] at e; omega))).trans (zu k22 h).1, (zu k22 h).2⟩), (fun _ => zt), (fun _ => zt), (fun _ _ h q hq => by rcases hnb q hq with h1 | h1; (have := zu kn22 rfl rfl h; simp [Value.ownBlock] at h1; omega); (have := (zu k22 h).1.lt; omega)), (fun _ => ⟨rfl, rfl⟩), zf, zf, zu l19, zu l20, zf, zf⟩
  ·intro h0 hd K hK
   have z : u3 = false := h0
   have z24_ : u24 = false := znb fun hu => z.symm.trans ((zu kF hu).2.2.2.1)
   subst z24_
   subst z
   clear h0 hd
   rw [if_pos (by rfl)]
   go_simp
   exact zu hK _ _ ⟨u0, u1, u2, true, u4, u5, u6, u7, u8, u9, u10, u11, u12, u13, u14, u15, u16, u17, u18, u19, u20, u21, u22, u23, false, n0, n16, n22, r2, r17, rfl, rfl, zu kB, zu k0, zu kR, zu k16, zu kS, zu k22, zu kn16, zu kn22, zu kd, zu l2, zu l17, zu l18, zu l19, zu l20, zu l23, zf⟩
  ·intro h0 hd K hK
   have z : u4 = false := h0
   have z24_ : u24 = false := znb fun hu => z.symm.trans ((zu kF hu).2.2.2.2.1)
   have zd : u3 = true := by
    simp [Region.binds] at hd
    simp [hd]
   obtain ⟨rfl⟩ := zd
   subst z24_
   subst z
   clear h0 hd
   rw [if_pos (by rfl)]
   have c0 := keep1 (zu kB) (zu HA0)
   go_simp
   exact zu hK _ _ ⟨u0, u1, u2, true, true, u5, u6, u7, u8, u9, u10, u11, u12, u13, u14, u15, u16, u17, u18, u19, u20, u21, u22, u23, false, n0, n16, n22, r2, r17, rfl, rfl, zu kB, zu k0, zu kR, zu k16, zu kS, zu k22, zu kn16, zu kn22, zu kd, zu l2, zu l17, zu l18, zu l19, zu l20, zu l23, zf⟩
  ·intro h0 hd K hK
   have z : u5 = false := h0
   have z24_ : u24 = false := znb fun hu => z.symm.trans ((zu kF hu).2.2.2.2.2.1)
   subst z24_
   subst z
   clear h0 hd
   rw [if_pos (by rfl)]
   go_simp
   exact zu hK _ _ ⟨u0, u1, u2, u3, u4, true, u6, u7, u8, u9, u10, u11, u12, u13, u14, u15, u16, u17, u18, u19, u20, u21, u22, u23, false, n0, n16, n22, r2, r17, rfl, rfl, zu kB, zu k0, zu kR, zu k16, zu kS, zu k22, zu kn16, zu kn22, zu kd, zu l2, zu l17, zu l18, zu l19, zu l20, zu l23, zf⟩
  ·intro h0 hd K hK
   have z : u6 = false := h0
   have z24_ : u24 = false := znb fun hu => z.symm.trans ((zu kF hu).2.2.2.2.2.2.1)
   have zd : u5 = true := by
    simp [Region.binds] at hd
    simp [hd]
   obtain ⟨rfl⟩ := zd
   subst z24_
   subst z
   clear h0 hd
   rw [if_pos (by rfl)]
   have c0 := keep1 (zu kB) (zu HC0)
   go_simp
   exact zu hK _ _ ⟨u0, u1, u2, u3, u4, true, true, u7, u8, u9, u10, u11, u12, u13, u14, u15, u16, u17, u18, u19, u20, u21, u22, u23, false, n0, n16, n22, r2, r17, rfl, rfl, zu kB, zu k0, zu kR, zu k16, zu kS, zu k22, zu kn16, zu kn22, zu kd, zu l2, zu l17, zu l18, zu l19, zu l20, zu l23, zf⟩
  ·intro h0 hd K hK
   have z : u7 = false := h0
   have z24_ : u24 = false := znb fun hu => z.symm.trans ((zu kF hu).2.2.2.2.2.2.2.1)
   have zd : u4 = true ∧ u6 = true := by
    simp [Region.binds] at hd
    simp [hd]
   obtain ⟨rfl, rfl⟩ := zd
   subst z24_
   subst z
   clear h0 hd
   rw [if_pos (by rfl)]
   have wq := zu HWx
   go_simp
   exact zu hK _ _ ⟨u0, u1, u2, u3, true, u5, true, true, u8, u9, u10, u11, u12, u13, u14, u15, u16, u17, u18, u19, u20, u21, u22, u23, false, n0, n16, n22, r2, r17, rfl, rfl, zu kB, zu k0, zu kR, zu k16, zu kS, zu k22, zu kn16, zu kn22, zu kd, zu l2, zu l17, zu l18, zu l19, zu l20, zu l23, zf⟩
  ·intro h0 hd K hK
   have z : u8 = false := h0
   have z24_ : u24 = false := znb fun hu => z.symm.trans ((zu kF hu).2.2.2.2.2.2.2.2.1)
   have zd : u7 = true := by
    simp [Region.binds] at hd
    simp [hd]
   obtain ⟨rfl⟩ := zd
   subst z24_
   subst z
   clear h0 hd
   rw [if_pos (by rfl)]
   have wq := zu HQx
   go_simp
   exact zu hK _ _ ⟨u0, u1, u2, u3, u4, u5, u6, true, true, u9, u10, u11, u12, u13, u14, u15, u16, u17, u18, u19, u20, u21, u22, u23, false, n0, n16, n22, r2, r17, rfl, rfl, zu kB, zu k0, zu kR, zu k16, zu kS, zu k22, zu kn16, zu kn22, zu kd, zu l2, zu l17, zu l18, zu l19, zu l20, zu l23, zf⟩
  ·intro h0 hd K hK
   have z : u9 = false := h0
   have z24_ : u24 = false := znb fun hu => z.symm.trans ((zu kF hu).2.2.2.2.2.2.2.2.2.1)
   subst z24_
   subst z
   clear h0 hd
   rw [if_pos (by rfl)]
   go_simp
   exact zu hK _ _ ⟨u0, u1, u2, u3, u4, u5, u6, u7, u8, true, u10, u11, u12, u13, u14, u15, u16, u17, u18, u19, u20, u21, u22, u23, false, n0, n16, n22, r2, r17, rfl, rfl, zu kB, zu k0, zu kR, zu k16, zu kS, zu k22, zu kn16, zu kn22, zu kd, zu l2, zu l17, zu l18, zu l19, zu l20, zu l23, zf⟩
  ·intro h0 hd K hK
   have z : u10 = false := h0
   have z24_ : u24 = false := znb fun hu => z.symm.trans ((zu kF hu).2.2.2.2.2.2.2.2.2.2.1)
   have zd : u9 = true := by
    simp [Region.binds] at hd
    simp [hd]
   obtain ⟨rfl⟩ := zd
   subst z24_
   subst z
   clear h0 hd
   rw [if_pos (by rfl)]
   have c0 := keep1 (zu kB) (zu HA1)
   go_simp
   exact zu hK _ _ ⟨u0, u1, u2, u3, u4, u5, u6, u7, u8, true, true, u11, u12, u13, u14, u15, u16, u17, u18, u19, u20, u21, u22, u23, false, n0, n16, n22, r2, r17, rfl, rfl, zu kB, zu k0, zu kR, zu k16, zu kS, zu k22, zu kn16, zu kn22, zu kd, zu l2, zu l17, zu l18, zu l19, zu l20, zu l23, zf⟩
  ·intro h0 hd K hK
   have z : u11 = false := h0
   have z24_ : u24 = false := znb fun hu => z.symm.trans ((zu kF hu).2.2.2.2.2.2.2.2.2.2.2.1)
   subst z24_
   subst z
   clear h0 hd
   rw [if_pos (by rfl)]
   go_simp
   exact zu hK _ _ ⟨u0, u1, u2, u3, u4, u5, u6, u7, u8, u9, u10, true, u12, u13, u14, u15, u16, u17, u18, u19, u20, u21, u22, u23, false, n0, n16, n22, r2, r17, rfl, rfl, zu kB, zu k0, zu kR, zu k16, zu kS, zu k22, zu kn16, zu kn22, zu kd, zu l2, zu l17, zu l18, zu l19, zu l20, zu l23, zf⟩
  ·intro h0 hd K hK
   have z : u12 = false := h0
   have z24_ : u24 = false := znb fun hu => z.symm.trans ((zu kF hu).2.2.2.2.2.2.2.2.2.2.2.2.1)
   have zd : u11 = true := by
    simp [Region.binds] at hd
    simp [hd]
   obtain ⟨rfl⟩ := zd
   subst z24_
   subst z
   clear h0 hd
   rw [if_pos (by rfl)]
   have c0 := keep1 (zu kB) (zu HC1)
   go_simp
   exact zu hK _ _ ⟨u0, u1, u2, u3, u4, u5, u6, u7, u8, u9, u10, true, true, u13, u14, u15, u16, u17, u18, u19, u20, u21, u22, u23, false, n0, n16, n22, r2, r17, rfl, rfl, zu kB, zu k0, zu kR, zu k16, zu kS, zu k22, zu kn16, zu kn22, zu kd, zu l2, zu l17, zu l18, zu l19, zu l20, zu l23, zf⟩
  ·intro h0 hd K hK
   have z : u13 = false := h0
   have z24_ : u24 = false := znb fun hu => z.symm.trans ((zu kF hu).2.2.2.2.2.2.2.2.2.2.2.2.2.1)
   have zd : u10 = true ∧ u12 = true := by
    simp [Region.binds] at hd
    simp [hd]
   obtain ⟨rfl, rfl⟩ := zd
   subst z24_
   subst z
   clear h0 hd
   rw [if_pos (by rfl)]
   have wq := zu HWy
   go_simp
   exact zu hK _ _ ⟨u0, u1, u2, u3, u4, u5, u6, u7, u8, u9, true, u11, true, true, u14, u15, u16, u17, u18, u19, u20, u21, u22, u23, false, n0, n16, n22, r2, r17, rfl, rfl, zu kB, zu k0, zu kR, zu k16, zu kS, zu k22, zu kn16, zu kn22, zu kd, zu l2, zu l17, zu l18, zu l19, zu l20, zu l23, zf⟩
  ·intro h0 hd K hK
   have z : u14 = false := h0
   have z24_ : u24 = false := znb fun hu => z.symm.trans ((zu kF hu).2.2.2.2.2.2.2.2.2.2.2.2.2.2.1)
   have zd : u13 = true := by
    simp [Region.binds] at hd
    simp [hd]
   obtain ⟨rfl⟩ := zd
   subst z24_
   subst z
   clear h0 hd
   rw [if_pos (by rfl)]
   have wq := zu HQy
   go_simp
   exact zu hK _ _ ⟨u0, u1, u2, u3, u4, u5, u6, u7, u8, u9, u10, u11, u12, true, true, u15, u16, u17, u18, u19, u20, u21, u22, u23, false, n0, n16, n22, r2, r17, rfl, rfl, zu kB, zu k0, zu kR, zu k16, zu kS, zu k22, zu kn16, zu kn22, zu kd, zu l2, zu l17, zu l18, zu l19, zu l20, zu l23, zf⟩
  ·intro h0 hd K hK
   have z : u15 = false := h0
   have z24_ : u24 = false := znb fun hu => z.symm.trans ((zu kF hu).2.2.2.2.2.2.2.2.2.2.2.2.2.2.2.1)
   have zd : u8 = true ∧ u14 = true := by
    simp [Region.binds] at hd
    simp [hd]
   obtain ⟨rfl, rfl⟩ := zd
   subst z24_
   subst z
   clear h0 hd
   rw [if_pos (by rfl)]
   go_simp
   exact zu hK _ _ ⟨u0, u1, u2, u3, u4, u5, u6, u7, true, u9, u10, u11, u12, u13, true, true, u16, u17, u18, u19, u20, u21, u22, u23, false, n0, n16, n22, r2, r17, rfl, rfl, zu kB, zu k0, zu kR, zu k16, zu kS, zu k22, zu kn16, zu kn22, zu kd, zu l2, zu l17, zu l18, zu l19, zu l20, zu l23, zf⟩
  ·intro h0 hd K hK
   have z : u16 = false := h0
   have z24_ : u24 = false := znb fun hu => z.symm.trans ((zu kF hu).2.2.2.2.2.2.2.2.2.2.2.2.2.2.2.2.1)
   have z17_ : u17 = false := znb fun hu => z.symm.trans ((zu l17 hu).2)
   have z18_ : u18 = false := znb fun hu => z.symm.trans ((zu l17 (zu l18 hu)).2)
   have z23_ : u23 = false := znb fun hu => z.symm.trans ((zu l17 (zu l18 (zu l19 (zu l20 (zu l23 hu).2.1)))).2)
   have zd : u15 = true := by
    simp [Region.binds] at hd
    simp [hd]
   obtain ⟨rfl⟩ := zd
   subst z24_
   subst z17_
   subst z18_
   subst z23_
   subst z
   clear h0 hd
   rw [if_pos (by rfl)]
   go_simp
   exact zu hK _ _ ⟨u0, u1, u2, u3, u4, u5, u6, u7, u8, u9, u10, u11, u12, u13, u14, true, true, false, false, u19, u20, u21, u22, false, false, n0, W.heap.size, n22, r2, r17, rfl, rfl, ba (zu kB) _, (fun h h2 => ⟨(zu k0 h h2).1.bel (ba (Below.refl _ _) _), (zu k0 h h2).2⟩), (fun h h2 => (zu kR h h2).below (ba (Below.refl _ _) _)), (fun _ _ => ⟨cb_new W 30 [.int .i64 mx, .int .i64 my] _ rfl, (zu kB).size⟩), zf, (fun h => ⟨(zu k22 h).1.bel (ba (Below.refl _ _) _), (zu k22 h).2⟩), (fun h h2 _ => by have := (zu k0 h h2).1.lt; omega), zu kn22, zu kd, zu l2, zf, zf, zu l19, zu l20, zf, zf⟩
  ·intro h0 hd K hK
   have z : u17 = false := h0
   have z24_ : u24 = false := znb fun hu => z.symm.trans ((zu kF hu).2.2.2.2.2.2.2.2.2.2.2.2.2.2.2.2.2.1)
   have z18_ : u18 = false := znb fun hu => z.symm.trans ((zu l18 hu))
   have z23_ : u23 = false := znb fun hu => z.symm.trans ((zu l18 (zu l19 (zu l20 (zu l23 hu).2.1))))
   have zd : u2 = true ∧ u16 = true := by
    simp [Region.binds] at hd
    simp [hd]
   obtain ⟨rfl, rfl⟩ := zd
   subst z24_
   subst z18_
   subst z23_
   subst z
   clear h0 hd
   rw [if_pos (by rfl)]
   have hr := zu kR rfl rfl
   have h16 := (zu k16 rfl rfl).1
   refine wp_append_new W (.tmp 302) (.tmp 316) 23 (by rfl) V.heap.size 30 iP _ 2 16 Try.underlying23 hi1 hy0 hy1 hy2 rfl (by decide) r2 n (F.map (Value.int .i64)) (by rfl) hr ⟨n16, 0, none⟩ 1 1 ([mx, my].map (Value.int .i64)) (by rfl) (by rfl) (src_cb h16) ints_one (by unfold maxLen; omega) (by omega) (zu kB).size ?_
   intro r17' w1 hown' hgrow _ hnb
   have R := own_more (wr := W) (L := F) (news := [mx, my]) (Below.refl _ _) (zu kB).size hr hown' hgrow
   exact zu hK _ _ ⟨u0, u1, true, u3, u4, u5, u6, u7, u8, u9, u10, u11, u12, u13, u14, u15, true, true, false, u19, u20, u21, u22, false, false, n0, n16, n22, r2, r17', rfl, rfl, (zu kB).trans R.2, (fun _ => zt), (fun _ => zt), (fun _ => zt), (fun _ _ => R.1), (fun h => ⟨(hgrow.block n22 (zu k22 h).1.lt (fun e => zu kd rfl rfl h n22 e.symm rfl)).trans (zu k22 h).1, (zu k22 h).2⟩), (fun _ => zt), (fun _ => zt), (fun _ => zt), zu l2, (fun _ => ⟨rfl, rfl⟩), zf, zu l19, zu l20, zf, zf⟩
  ·intro h0 hd K hK
   have z : u18 = false := h0
   have z24_ : u24 = false := znb fun hu => z.symm.trans ((zu kF hu).2.2.2.2.2.2.2.2.2.2.2.2.2.2.2.2.2.2.1)
   have z23_ : u23 = false := znb fun hu => z.symm.trans ((zu l19 (zu l20 (zu l23 hu).2.1)))
   have zd : u17 = true := by
    simp [Region.binds] at hd
    simp [hd]
   obtain ⟨rfl⟩ := zd
   subst z24_
   subst z23_
   subst z
   clear h0 hd
   rw [if_pos (by rfl)]
   go_simp
   refine (zu HF W r17 (zu kB) (zu kS rfl rfl)).mono ?_
   rintro e w8 ⟨rfl, hb8⟩
   exact zu hK _ _ ⟨u0, u1, u2, u3, u4, u5, u6, u7, u8, u9, u10, u11, u12, u13, u14, u15, u16, true, true, u19, u20, u21, u22, false, false, n0, n16, n22, r2, r17, rfl, rfl, bc (zu kB) hb8, (fun h h2 => ⟨(zu k0 h h2).1.bel hb8, (zu k0 h h2).2⟩), (fun _ => zt), (fun _ => zt), (fun _ => zt), (fun h => ⟨(zu k22 h).1.bel hb8, (zu k22 h).2⟩), zu kn16, zu kn22, (fun _ => zt), zu l2, zu l17, (fun _ => rfl), (fun h => rfl), zu l20, zf, zf⟩
  ·intro h0 hd K hK
   have z : u19 = false := h0
   have z24_ : u24 = false := znb fun hu => z.symm.trans ((zu kF hu).2.2.2.2.2.2.2.2.2.2.2.2.2.2.2.2.2.2.2.1)
   have zd : u18 = true := by
    simp [Region.binds] at hd
    simp [hd]
   obtain ⟨rfl⟩ := zd
   subst z24_
   subst z
   clear h0 hd
   rw [if_pos (by rfl)]
   go_simp
   exact zu hK _ _ ⟨u0, u1, u2, u3, u4, u5, u6, u7, u8, u9, u10, u11, u12, u13, u14, u15, u16, u17, true, true, u20, u21, u22, u23, false, n0, n16, n22, r2, r17, rfl, rfl, zu kB, zu k0, zu kR, zu k16, zu kS, zu k22, zu kn16, zu kn22, zu kd, zu l2, zu l17, zu l18, (fun _ => rfl), (fun h => rfl), (fun h => ⟨(zu l23 h).1, (zu l23 h).2.1, rfl, (zu l23 h).2.2.2.1, (zu l23 h).2.2.2.2⟩), zf⟩
  ·intro h0 hd K hK
   have z : u20 = false := h0
   have z24_ : u24 = false := znb fun hu => z.symm.trans ((zu kF hu).2.2.2.2.2.2.2.2.2.2.2.2.2.2.2.2.2.2.2.2.1)
   have zd : u19 = true := by
    simp [Region.binds] at hd
    simp [hd]
   obtain ⟨rfl⟩ := zd
   subst z24_
   subst z
   clear h0 hd
   rw [if_pos (by rfl)]
   go_simp
   exact zu hK _ _ ⟨u0, u1, u2, u3, u4, u5, u6, u7, u8, u9, u10, u11, u12, u13, u14, u15, u16, u17, u18, true, true, u21, u22, u23, false, n0, n16, n22, r2, r17, rfl, rfl, zu kB, zu k0, zu kR, zu k16, zu kS, zu k22, zu kn16, zu kn22, zu kd, zu l2, zu l17, zu l18, zu l19, (fun _ => rfl), (fun h => ⟨(zu l23 h).1, rfl, (zu l23 h).2.2.1, (zu l23 h).2.2.2.1, (zu l23 h).2.2.2.2⟩), zf⟩
  ·intro h0 hd K hK
   have z : u21 = false := h0
   have z24_ : u24 = false := znb fun hu => z.symm.trans ((zu kF hu).2.2.2.2.2.2.2.2.2.2.2.2.2.2.2.2.2.2.2.2.2.1)
   have zd : u19 = true := by
    simp [Region.binds] at hd
    simp [hd]
   obtain ⟨rfl⟩ := zd
   subst z24_
   subst z
   clear h0 hd
   rw [if_pos (by rfl)]
   go_simp
   exact zu hK _ _ ⟨u0, u1, u2, u3, u4, u5, u6, u7, u8, u9, u10, u11, u12, u13, u14, u15, u16, u17, u18, true, u20, true, u22, u23, false, n0, n16, n22, r2, r17, rfl, rfl, zu kB, zu k0, zu kR, zu k16, zu kS, zu k22, zu kn16, zu kn22, zu kd, zu l2, zu l17, zu l18, zu l19, (fun h => rfl), zu l23, zf⟩
  ·intro h0 hd K hK
   have z : u22 = false := h0
   have z24_ : u24 = false := znb fun hu => z.symm.trans ((zu kF hu).2.2.2.2.2.2.2.2.2.2.2.2.2.2.2.2.2.2.2.2.2.2.1)
   have z23_ : u23 = false := znb fun hu => z.symm.trans ((zu l23 hu).1)
   subst z24_
   subst z23_
   subst z
   clear h0 hd
   rw [if_pos (by rfl)]
   go_simp
   exact zu hK _ _ ⟨u0, u1, u2, u3, u4, u5, u6, u7, u8, u9, u10, u11, u12, u13, u14, u15, u16, u17, u18, u19, u20, u21, true, false, false, n0, n16, W.heap.size, r2, r17, rfl, rfl, ba (zu kB) _, (fun h h2 => ⟨(zu k0 h h2).1.bel (ba (Below.refl _ _) _), (zu k0 h h2).2⟩), (fun h h2 => (zu kR h h2).below (ba (Below.refl _ _) _)), (fun h h2 => ⟨(zu k16 h h2).1.bel (ba (Below.refl _ _) _), (zu k16 h h2).2⟩), (fun h h2 => (zu kS h h2).below (ba (Below.refl _ _) _)), (fun _ => ⟨cb_new W 34 [.int .i64 0, .int .i64 0, .int .i64 0, .int .i64 0, .int .i64 0, .int .i64 0, .int .i64 0, .int .i64 0] _ rfl, (zu kB).size⟩), zu kn16, (fun h h2 _ => by have := (zu k0 h h2).1.lt; omega), (fun h h2 _ q hq => by have := (World.ownsRow.lt (zu kR h h2) q hq).2; omega), zu l2, zu l17, zu l18, zu l19, zu l20, zf, zf⟩
  ·intro h0 hd K hK
   have z : u23 = false := h0
   have z24_ : u24 = false := znb fun hu => z.symm.trans ((zu kF hu).2.2.2.2.2.2.2.2.2.2.2.2.2.2.2.2.2.2.2.2.2.2.2)
   have zd : u22 = true ∧ u20 = true ∧ u18 = true ∧ u17 = true ∧ u2 = true := by
    simp [Region.binds] at hd
    simp [hd]
   obtain ⟨rfl, rfl, rfl, rfl, rfl⟩ := zd
   subst z24_
   subst z
   clear h0 hd
   rw [if_pos (by rfl)]
   have v1 := (zu k22 rfl).1
   have g9 := (zu k22 rfl).2
   have fz := v1.frozen
   have q0 := v1.cell (m := 0) rfl
   have q1 := v1.cell (m := 1) rfl
   have q2 := v1.cell (m := 2) rfl
   have q3 := v1.cell (m := 3) rfl
   have q4 := v1.cell (m := 4) rfl
   have q5 := v1.cell (m := 5) rfl
   have q6 := v1.cell (m := 6) rfl
   have q7 := v1.cell (m := 7) rfl
   have HV1 := hide v1
   clear v1
   go_simp
   exact zu hK _ _ ⟨u0, u1, true, u3, u4, u5, u6, u7, u8, u9, u10, u11, u12, u13, u14, u15, u16, true, true, u19, true, u21, true, true, false, n0, n16, n22, r2, r17, rfl, rfl, (((((((((zu kB).setCell (p := ⟨n22, 0, none⟩) g9 _).setCell (p := ⟨n22, 1, none⟩) g9 _).setCell (p := ⟨n22, 2, none⟩) g9 _).setCell (p := ⟨n22, 3, none⟩) g9 _).setCell (p := ⟨n22, 4, none⟩) g9 _).setCell (p := ⟨n22, 5, none⟩) g9 _).setCell (p := ⟨n22, 6, none⟩) g9 _).setCell (p := ⟨n22, 7, none⟩) g9 _), (fun _ => zt), (fun _ => zt), (fun _ => zt), (fun _ => zt), (fun _ => ⟨(((((((((zu HV1).set 0 _).set 1 _).set 2 _).set 3 _).set 4 _).set 5 _).set 6 _).set 7 _), g9⟩), (fun _ => zt), (fun _ => zt), (fun _ => zt), zu l2, (fun h => ⟨rfl, (zu l17 h).2⟩), (fun h => rfl), (fun h => rfl), zu l20, (fun _ => ⟨rfl, rfl, rfl, rfl, rfl⟩), zf⟩
  ·intro h0 hd K hK
   have z : u24 = false := h0
   have zd0 : u0 = true ∧ u1 = true ∧ u2 = true ∧ u3 = true ∧ u4 = true ∧ u5 = true ∧ u6 = true ∧ u7 = true ∧ u8 = true ∧ u9 = true ∧ u10 = true ∧ u11 = true ∧ u12 = true ∧ u13 = true ∧ u14 = true ∧ u15 = true ∧ u16 = true ∧ u17 = true ∧ u18 = true ∧ u19 = true ∧ u20 = true ∧ u21 = true ∧ u22 = true ∧ u23 = true := by
    simp [Region.binds] at hd
    simp [hd]
   have zd : u0 = true ∧ u1 = true ∧ u2 = true ∧ u3 = true ∧ u4 = true ∧ u5 = true ∧ u6 = true ∧ u7 = true ∧ u8 = true ∧ u9 = true ∧ u10 = true ∧ u11 = true ∧ u12 = true ∧ u13 = true ∧ u14 = true ∧ u15 = true ∧ u16 = true ∧ u17 = true ∧ u18 = true ∧ u19 = true ∧ u20 = true ∧ u21 = true ∧ u22 = true ∧ u23 = true := ⟨zd0.1, zd0.2.1, zd0.2.2.1, zd0.2.2.2.1, zd0.2.2.2.2.1, zd0.2.2.2.2.2.1, zd0.2.2.2.2.2.2.1, zd0.2.2.2.2.2.2.2.1, zd0.2.2.2.2.2.2.2.2.1, zd0.2.2.2.2.2.2.2.2.2.1, zd0.2.2.2.2.2.2.2.2.2.2.1, zd0.2.2.2.2.2.2.2.2.2.2.2.1, zd0.2.2.2.2.2.2.2.2.2.2.2.2.1, zd0.2.2.2.2.2.2.2.2.2.2.2.2.2.1, zd0.2.2.2.2.2.2.2.2.2.2.2.2.2.2.1, zd0.2.2.2.2.2.2.2.2.2.2.2.2.2.2.2.1, zd0.2.2.2.2.2.2.2.2.2.2.2.2.2.2.2.2.1, zd0.2.2.2.2.2.2.2.2.2.2.2.2.2.2.2.2.2.1, zd0.2.2.2.2.2.2.2.2.2.2.2.2.2.2.2.2.2.2.1, zd0.2.2.2.2.2.2.2.2.2.2.2.2.2.2.2.2.2.2.2.1, zd0.2.2.2.2.2.2.2.2.2.2.2.2.2.2.2.2.2.2.2.2.1, zd0.2.2.2.2.2.2.2.2.2.2.2.2.2.2.2.2.2.2.2.2.2.1, zd0.2.2.2.2.2.2.2.2.2.2.2.2.2.2.2.2.2.2.2.2.2.2.1, zd0.2.2.2.2.2.2.2.2.2.2.2.2.2.2.2.2.2.2.2.2.2.2.2⟩
   obtain ⟨rfl, rfl, rfl, rfl, rfl, rfl, rfl, rfl, rfl, rfl, rfl, rfl, rfl, rfl, rfl, rfl, rfl, rfl, rfl, rfl, rfl, rfl, rfl, rfl⟩ := zd
   subst z
   clear h0 hd
   rw [if_pos (by rfl)]
   go_simp
   exact zu hK _ _ ⟨true, true, true, true, true, true, true, true, true, true, true, true, true, true, true, true, true, true, true, true, true, true, true, true, true, n0, n16, n22, r2, r17, rfl, rfl, zu kB, (fun _ => zt), (fun _ => zt), (fun _ => zt), (fun _ => zt), zu k22, (fun _ => zt), (fun _ => zt), (fun _ => zt), (fun _ => ⟨rfl, rfl⟩), (fun _ => ⟨rfl, rfl⟩), (fun _ => rfl), (fun _ => rfl), (fun _ => rfl), (fun _ => ⟨rfl, rfl, rfl, rfl, rfl⟩), (fun _ => ⟨rfl, rfl, rfl, rfl, rfl, rfl, rfl, rfl, rfl, rfl, rfl, rfl, rfl, rfl, rfl, rfl, rfl, rfl, rfl, rfl, rfl, rfl, rfl, rfl⟩)⟩
 case hend =>
  intro Lb A W hI
  obtain ⟨u0, u1, u2, u3, u4, hI⟩ := hI
  obtain ⟨u5, u6, u7, u8, u9, hI⟩ := hI
  obtain ⟨u10, u11, u12, u13, u14, hI⟩ := hI
  obtain ⟨u15, u16, u17, u18, u19, hI⟩ := hI
  obtain ⟨u20, u21, u22, u23, u24, hI⟩ := hI
  obtain ⟨n0, n16, n22, r2, r17, hI⟩ := hI
  obtain ⟨hLb, hI⟩ := hI
  obtain ⟨hA, hI⟩ := hI
  obtain ⟨kB, hI⟩ := hI
  obtain ⟨k0, hI⟩ := hI
  obtain ⟨kR, hI⟩ := hI
  obtain ⟨k16, hI⟩ := hI
  obtain ⟨kS, hI⟩ := hI
  obtain ⟨k22, hI⟩ := hI
  obtain ⟨kn16, hI⟩ := hI
  obtain ⟨kn22, hI⟩ := hI
  obtain ⟨kd, hI⟩ := hI
  obtain ⟨l2, hI⟩ := hI
  obtain ⟨l17, hI⟩ := hI
  obtain ⟨l18, hI⟩ := hI
  obtain ⟨l19, hI⟩ := hI
  obtain ⟨l20, hI⟩ := hI
  obtain ⟨l23, hI⟩ := hI
  have kF := hI
  clear hI
  subst hLb
  subst hA
  intro hL
  have hl : u0 = true ∧ u1 = true ∧ u2 = true ∧ u3 = true ∧ u4 = true ∧ u5 = true ∧ u6 = true ∧ u7 = true ∧ u8 = true ∧ u9 = true ∧ u10 = true ∧ u11 = true ∧ u12 = true ∧ u13 = true ∧ u14 = true ∧ u15 = true ∧ u16 = true ∧ u17 = true ∧ u18 = true ∧ u19 = true ∧ u20 = true ∧ u21 = true ∧ u22 = true ∧ u23 = true ∧ u24 = true := by
   have h2 := congrArg Array.toList hL
   simpa [List.replicate] using h2
  obtain ⟨rfl, rfl, rfl, rfl, rfl, rfl, rfl, rfl, rfl, rfl, rfl, rfl, rfl, rfl, rfl, rfl, rfl, rfl, rfl, rfl, rfl, rfl, rfl, rfl, rfl⟩ := hl
  exact zu HQ n0 n16 n22 r2 r17 W kB (k22 rfl).1 (k22 rfl).2
end Go.Proofs.Ytdcecfgmfmpeeaa
