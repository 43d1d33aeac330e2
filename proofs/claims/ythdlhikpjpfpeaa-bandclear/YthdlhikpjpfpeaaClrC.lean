/-
  What is proved here: how BandClear ends.
-/
import Derived.Test.YthdlhikpjpfpeaaOpen
import Derived.Test.YthdlhikpjpfpeaaSlots
import Derived.BigQuiet
namespace Go.Proofs.Ythdlhikpjpfpeaa
open Go.RowKit Go.Shelf

/-- What the rounds keep: bands that objects made. -/
structure GL (n : Int) (k : Nat) (l : List Bd) : Prop where
  len : l.length = k
  few : k ≤ 12
  all : ∀ b ∈ l, (b.s = 0 ∨ b.s = 2) ∧ 0 ≤ b.y ∧ 0 ≤ b.h ∧ b.h ≤ 200 ∧ b.y + b.h ≤ 1000 + 200 * (k : Int) ∧ 0 ≤ b.w ∧ b.w ≤ (n - 10) / 2
theorem GL.ok {n : Int} {k : Nat} {l : List Bd} (h : GL n k l) (hn : n ≤ 4095) : Ok l := by
  have h1 := h.few
  have h2 := h.len
  refine ⟨by omega, fun b hb => ?_⟩
  obtain ⟨a1, a2, a3, a4, a5, a6, a7⟩ := h.all b hb
  exact ⟨a1, ⟨a2, by omega⟩, ⟨a3, by omega⟩, ⟨a6, by omega⟩⟩
def mkB (n : Int) (l : List Bd) (o : Bd) : Bd := ⟨o.s, belF o.s l o.y, o.h, min o.w ((max (n - 10) 0) / 2)⟩
def obB (o : Bd) : Prop := (o.s = 0 ∨ o.s = 2) ∧ (0 ≤ o.y ∧ o.y ≤ 1000) ∧ (0 ≤ o.h ∧ o.h ≤ 200) ∧ (0 ≤ o.w ∧ o.w ≤ 4095)
theorem GL.nil (n : Int) : GL n 0 [] := ⟨rfl, by omega, fun b hb => by simp at hb⟩
theorem GL.step {n : Int} {k : Nat} {l : List Bd} (h : GL n k l) (hn : 10 ≤ n) (hk : k < 12) {o : Bd} (ho : obB o) : GL n (k + 1) (l ++ [mkB n l o]) := by
  obtain ⟨o1, o2, o3, o4⟩ := ho
  refine ⟨by rw [List.length_append, h.len]; rfl, by omega, fun b hb => ?_⟩
  rcases List.mem_append.1 hb with hb | hb
  · obtain ⟨a1, a2, a3, a4, a5, a6, a7⟩ := h.all b hb
    exact ⟨a1, a2, a3, a4, by omega, a6, a7⟩
  · obtain rfl := List.mem_singleton.1 hb
    have hr := belF_rng o.s l o.y (1000 + 200 * (k : Int)) o2.1 (by omega) (fun b hb => by obtain ⟨a1, a2, a3, a4, a5, a6, a7⟩ := h.all b hb; exact ⟨by omega, by omega⟩)
    refine ⟨o1, ?_, o3.1, o3.2, ?_, ?_, ?_⟩
    · show 0 ≤ belF o.s l o.y; omega
    · show belF o.s l o.y + o.h ≤ _; omega
    · show 0 ≤ min o.w ((max (n - 10) 0) / 2); omega
    · show min o.w ((max (n - 10) 0) / 2) ≤ (n - 10) / 2; omega
def rest36 : Code := ((Code.region 36 #[{ dst := some 295, op := Op.move (Operand.tmp 10), type := 22, pos := "outright.go:70", after := #[], guard := none }, { dst := some 296, op := Op.move (Operand.tmp 2), type := 3, pos := "outright.go:70", after := #[], guard := none }, { dst := some 297, op := Op.call { callee := Callee.value (Operand.func 9), args := #[Operand.tmp 295, Operand.tmp 296], argTypes := #[22, 3] }, type := 27, pos := "outright.go:70", after := #[{ on := 0, ground := Ground.data }, { on := 1, ground := Ground.data }], guard := none }, { dst := some 294, op := Op.move (Operand.tmp 297), type := 27, pos := "outright.go:70", after := #[{ on := 2, ground := Ground.data }], guard := none }, { dst := some 298, op := Op.extract (Operand.tmp 294) 0, type := 3, pos := "outright.go:70", after := #[{ on := 3, ground := Ground.data }], guard := none }, { dst := some 299, op := Op.extract (Operand.tmp 294) 1, type := 24, pos := "outright.go:70", after := #[{ on := 3, ground := Ground.data }, { on := 6, ground := Ground.gcOnly Departure.lateStores }], guard := none }, { dst := some 22, op := Op.assign (Operand.tmp 298), type := 3, pos := "outright.go:70", after := #[{ on := 4, ground := Ground.data }, { on := 2, ground := Ground.chain }, { on := 0, ground := Ground.phase }, { on := 1, ground := Ground.phase }, { on := 2, ground := Ground.phase }, { on := 3, ground := Ground.phase }, { on := 4, ground := Ground.phase }, { on := 5, ground := Ground.textOnly Departure.lateStores }], guard := none }, { dst := some 23, op := Op.assign (Operand.tmp 299), type := 24, pos := "outright.go:70", after := #[{ on := 5, ground := Ground.data }, { on := 6, ground := Ground.chain }, { on := 0, ground := Ground.phase }, { on := 1, ground := Ground.phase }, { on := 2, ground := Ground.phase }, { on := 3, ground := Ground.phase }, { on := 4, ground := Ground.phase }, { on := 5, ground := Ground.phase }, { on := 6, ground := Ground.phase }], guard := none }] false).seq (((Code.region 37 #[{ dst := some 24, op := Op.assign (Operand.const (Value.int IntKind.i64 0)), type := 3, pos := "outright.go:71", after := #[], guard := none }] false).seq (Code.block 8 (((Code.region 38 #[{ dst := some 300, op := Op.move (Operand.tmp 24), type := 3, pos := "outright.go:71", after := #[], guard := none }, { dst := some 301, op := Op.move (Operand.tmp 10), type := 22, pos := "outright.go:71", after := #[], guard := none }, { dst := some 302, op := Op.call { callee := Callee.builtin Builtin.len, args := #[Operand.tmp 301], argTypes := #[22] }, type := 3, pos := "outright.go:71", after := #[{ on := 1, ground := Ground.data }], guard := none }, { dst := some 303, op := Op.binOp BinOp.lss 3 (Operand.tmp 300) (Operand.tmp 302) 3, type := 4, pos := "outright.go:71", after := #[{ on := 0, ground := Ground.data }, { on := 2, ground := Ground.data }], guard := none }] false).seq (Code.cond (Operand.tmp 303) Code.skip (Code.exit 8))).seq ((Code.block 9 ((Code.region 40 #[{ dst := some 306, op := Op.move (Operand.tmp 10), type := 22, pos := "outright.go:72", after := #[], guard := none }, { dst := some 307, op := Op.move (Operand.tmp 24), type := 3, pos := "outright.go:72", after := #[], guard := none }, { dst := some 308, op := Op.indexAddr 22 (Operand.tmp 306) (Operand.tmp 307), type := 0, pos := "outright.go:72", after := #[{ on := 0, ground := Ground.data }, { on := 1, ground := Ground.data }], guard := none }, { dst := some 309, op := Op.fieldAddr 34 (Operand.tmp 308) 1, type := 0, pos := "outright.go:72", after := #[{ on := 2, ground := Ground.data }], guard := none }, { dst := some 310, op := Op.load 3 (Operand.tmp 309), type := 3, pos := "outright.go:72", after := #[{ on := 3, ground := Ground.data }], guard := none }, { dst := some 311, op := Op.move (Operand.tmp 10), type := 22, pos := "outright.go:72", after := #[], guard := none }, { dst := some 312, op := Op.move (Operand.tmp 24), type := 3, pos := "outright.go:72", after := #[], guard := none }, { dst := some 313, op := Op.indexAddr 22 (Operand.tmp 311) (Operand.tmp 312), type := 0, pos := "outright.go:72", after := #[{ on := 5, ground := Ground.data }, { on := 6, ground := Ground.data }], guard := none }, { dst := some 314, op := Op.fieldAddr 34 (Operand.tmp 313) 2, type := 0, pos := "outright.go:72", after := #[{ on := 7, ground := Ground.data }], guard := none }, { dst := some 315, op := Op.load 3 (Operand.tmp 314), type := 3, pos := "outright.go:72", after := #[{ on := 8, ground := Ground.data }], guard := none }, { dst := some 316, op := Op.binOp BinOp.add 3 (Operand.tmp 310) (Operand.tmp 315) 3, type := 3, pos := "outright.go:72", after := #[{ on := 4, ground := Ground.data }, { on := 9, ground := Ground.data }], guard := none }, { dst := some 317, op := Op.move (Operand.tmp 22), type := 3, pos := "outright.go:72", after := #[], guard := none }, { dst := some 318, op := Op.binOp BinOp.gtr 3 (Operand.tmp 316) (Operand.tmp 317) 3, type := 4, pos := "outright.go:72", after := #[{ on := 10, ground := Ground.data }, { on := 11, ground := Ground.data }], guard := none }] true).seq (Code.cond (Operand.tmp 318) ((Code.region 41 #[{ dst := some 8, op := Op.assign (Operand.const (Value.bool false)), type := 4, pos := "outright.go:73", after := #[], guard := none }] false).seq Code.ret) Code.skip))).seq (Code.region 39 #[{ dst := some 304, op := Op.move (Operand.tmp 24), type := 3, pos := "outright.go:71", after := #[], guard := none }, { dst := some 305, op := Op.binOp BinOp.add 3 (Operand.tmp 304) (Operand.const (Value.int IntKind.i64 1)) 3, type := 3, pos := "outright.go:71", after := #[{ on := 0, ground := Ground.data }], guard := none }, { dst := some 24, op := Op.assign (Operand.tmp 305), type := 3, pos := "outright.go:71", after := #[{ on := 1, ground := Ground.data }, { on := 0, ground := Ground.phase }, { on := 1, ground := Ground.phase }], guard := none }] false))).loop)).seq ((Code.region 42 #[{ dst := some 319, op := Op.move (Operand.tmp 9), type := 4, pos := "outright.go:76", after := #[], guard := none }, { dst := some 320, op := Op.move (Operand.tmp 319), type := 4, pos := "outright.go:76", after := #[{ on := 0, ground := Ground.data }], guard := none }, { dst := some 321, op := Op.move (Operand.tmp 23), type := 24, pos := "outright.go:76", after := #[{ on := 1, ground := Ground.guard }], guard := some (1, true) }, { dst := some 322, op := Op.binOp BinOp.eql 24 (Operand.tmp 321) (Operand.const (Value.int IntKind.i64 0)) 24, type := 4, pos := "outright.go:76", after := #[{ on := 2, ground := Ground.data }, { on := 1, ground := Ground.guard }], guard := some (1, true) }, { dst := some 323, op := Op.pick (Operand.tmp 320) (Operand.tmp 322) (Operand.const (Value.bool false)), type := 4, pos := "outright.go:76", after := #[{ on := 1, ground := Ground.data }, { on := 3, ground := Ground.data }], guard := none }, { dst := some 324, op := Op.move (Operand.tmp 323), type := 4, pos := "outright.go:76", after := #[{ on := 4, ground := Ground.data }, { on := 1, ground := Ground.chain }], guard := none }, { dst := some 325, op := Op.move (Operand.tmp 22), type := 3, pos := "outright.go:76", after := #[{ on := 5, ground := Ground.guard }], guard := some (5, true) }, { dst := some 326, op := Op.move (Operand.tmp 2), type := 3, pos := "outright.go:76", after := #[{ on := 5, ground := Ground.guard }], guard := some (5, true) }, { dst := some 327, op := Op.binOp BinOp.geq 3 (Operand.tmp 325) (Operand.tmp 326) 3, type := 4, pos := "outright.go:76", after := #[{ on := 6, ground := Ground.data }, { on := 7, ground := Ground.data }, { on := 5, ground := Ground.guard }], guard := some (5, true) }, { dst := some 328, op := Op.pick (Operand.tmp 324) (Operand.tmp 327) (Operand.const (Value.bool false)), type := 4, pos := "outright.go:76", after := #[{ on := 5, ground := Ground.data }, { on := 8, ground := Ground.data }], guard := none }, { dst := some 8, op := Op.assign (Operand.tmp 328), type := 4, pos := "outright.go:76", after := #[{ on := 9, ground := Ground.data }, { on := 5, ground := Ground.chain }, { on := 0, ground := Ground.phase }, { on := 1, ground := Ground.phase }, { on := 2, ground := Ground.phase }, { on := 3, ground := Ground.phase }, { on := 4, ground := Ground.phase }, { on := 5, ground := Ground.phase }, { on := 6, ground := Ground.phase }, { on := 7, ground := Ground.phase }, { on := 8, ground := Ground.phase }, { on := 9, ground := Ground.phase }], guard := none }] false).seq Code.ret)))
set_option maxRecDepth 100000 in
set_option maxHeartbeats 4000000 in
theorem rest36_wp (RR : Ending → World → Prop) (z w : World) (a : Option Addr) (l : List Bd) (cap : Nat) (y : Int) (hok : Ok l) (hy : inB y = true) (hz : Below z.heap.size z w) (hS : RecAt 4 bdL w (.slice a l.length cap) l) {v0 v1 v3 v4 v5 v6 v7 v8 v11 v12 v13 v14 v15 v16 v17 v18 v19 v20 v21 v22 v23 v24 v25 v26 v27 v28 v29 v30 v31 v32 v33 v34 v35 v36 v37 v38 v39 v40 v41 v42 v43 v44 v45 v46 v47 v48 v49 v50 v51 v52 v53 v54 v55 v56 v57 v58 v59 v60 v61 v62 v63 v64 v65 v66 v67 v68 v69 v70 v71 v72 v73 v74 v75 v76 v77 v78 v79 v80 v81 v82 v83 v84 v85 v86 v87 v88 v89 v90 v91 v92 v93 v94 v95 v96 v97 v98 v99 v100 v101 v102 v103 v104 v105 v106 v107 v108 v109 v110 v111 v112 v113 v114 v115 v116 v117 v118 v119 v120 v121 v122 v123 v124 v125 v126 v127 v128 v129 v130 v131 v132 v133 v134 v135 v136 v137 v138 v139 v140 v141 v142 v143 v144 v145 v146 v147 v148 v149 v150 v151 v152 v153 v154 v155 v156 v157 v158 v159 v160 v161 v162 v163 v164 v165 v166 v167 v168 v169 v170 v171 v172 v173 v174 v175 v176 v177 v178 v179 v180 v181 v182 v183 v184 v185 v186 v187 v188 v189 v190 v191 v192 v193 v194 v195 v196 v197 v198 v199 v200 v201 v202 v203 v204 v205 v206 v207 v208 v209 v210 v211 v212 v213 v214 v215 v216 v217 v218 v219 v220 v221 v222 v223 v224 v225 v226 v227 v228 v229 v230 v231 v232 v233 v234 v235 v236 v237 v238 v239 v240 v241 v242 v243 v244 v245 v246 v247 v248 v249 v250 v251 v252 v253 v254 v255 v256 v257 v258 v259 v260 v261 v262 v263 v264 v265 v266 v267 v268 v269 v270 v271 v272 v273 v274 v275 v276 v277 v278 v279 v280 v281 v282 v283 v284 v285 v286 v287 v288 v289 v290 v291 v292 v293 v294 v295 v296 v297 v298 v299 v300 v301 v302 v303 v304 v305 v306 v307 v308 v309 v310 v311 v312 v313 v314 v315 v316 v317 v318 v319 v320 v321 v322 v323 v324 v325 v326 v327 v328 : Value}
    (hR : Hid (∀ W, Below z.heap.size z W → RR (.returned (.bool true)) W)) :
    rest36.wp Try.prog (bodyPost Try.prog Try.f5 RR) { tmps := #[v0, v1, .int .i64 y, v3, v4, v5, v6, v7, v8, .bool true, .slice a l.length cap, v11, v12, v13, v14, v15, v16, v17, v18, v19, v20, v21, v22, v23, v24, v25, v26, v27, v28, v29, v30, v31, v32, v33, v34, v35, v36, v37, v38, v39, v40, v41, v42, v43, v44, v45, v46, v47, v48, v49, v50, v51, v52, v53, v54, v55, v56, v57, v58, v59, v60, v61, v62, v63, v64, v65, v66, v67, v68, v69, v70, v71, v72, v73, v74, v75, v76, v77, v78, v79, v80, v81, v82, v83, v84, v85, v86, v87, v88, v89, v90, v91, v92, v93, v94, v95, v96, v97, v98, v99, v100, v101, v102, v103, v104, v105, v106, v107, v108, v109, v110, v111, v112, v113, v114, v115, v116, v117, v118, v119, v120, v121, v122, v123, v124, v125, v126, v127, v128, v129, v130, v131, v132, v133, v134, v135, v136, v137, v138, v139, v140, v141, v142, v143, v144, v145, v146, v147, v148, v149, v150, v151, v152, v153, v154, v155, v156, v157, v158, v159, v160, v161, v162, v163, v164, v165, v166, v167, v168, v169, v170, v171, v172, v173, v174, v175, v176, v177, v178, v179, v180, v181, v182, v183, v184, v185, v186, v187, v188, v189, v190, v191, v192, v193, v194, v195, v196, v197, v198, v199, v200, v201, v202, v203, v204, v205, v206, v207, v208, v209, v210, v211, v212, v213, v214, v215, v216, v217, v218, v219, v220, v221, v222, v223, v224, v225, v226, v227, v228, v229, v230, v231, v232, v233, v234, v235, v236, v237, v238, v239, v240, v241, v242, v243, v244, v245, v246, v247, v248, v249, v250, v251, v252, v253, v254, v255, v256, v257, v258, v259, v260, v261, v262, v263, v264, v265, v266, v267, v268, v269, v270, v271, v272, v273, v274, v275, v276, v277, v278, v279, v280, v281, v282, v283, v284, v285, v286, v287, v288, v289, v290, v291, v292, v293, v294, v295, v296, v297, v298, v299, v300, v301, v302, v303, v304, v305, v306, v307, v308, v309, v310, v311, v312, v313, v314, v315, v316, v317, v318, v319, v320, v321, v322, v323, v324, v325, v326, v327, v328], defers := [] } w := by
  have hl := hok.1
  have hc := clear_any _ l y (by omega) w hS
  rw [(clrE_in (ckI_of hok) hy).1, (clrE_in (ckI_of hok) hy).2] at hc
  obtain ⟨g1, g2⟩ := clrF_ge l y
  have hgh : Hid (∀ b ∈ l, b.y + b.h ≤ clrF l y) := g2
  obtain ⟨y1, y2⟩ := inB_get hy
  generalize clrF l y = c at *
  clear g2 hy
  unfold rest36
  go_wp2_with fail
  refine hc.mono ?_
  rintro e w2 ⟨rfl, b2⟩
  have B2 := hz.trans (b2.mono hz.size)
  have S2 := hS.below b2 (Nat.le_refl _)
  obtain ⟨a', cap', e, h2⟩ := S2.ex
  cases e
  clear hc hS S2 b2 hz
  go_wp2_with fail
  go_loopw [24] (fun i wr => ∃ k : Nat, k ≤ l.length ∧ i = .int .i64 k ∧ Below w2.heap.size w2 wr) (fun i _ => l.length - (intOf i).toNat)
  case atStart => exact ⟨0, by omega, rfl, Below.refl _ _⟩
  case round =>
    obtain ⟨k, hk, rfl, hb⟩ := hrel
    by_cases hlt : k < l.length
    · rcases h2 with h2 | ⟨b, o, rfl, hbl, hc⟩
      · rw [h2] at hlt; simp at hlt
      have hlt' : (k : Int) < l.length := by omega
      have c1 : wr.cell? ⟨b, o + k * 4 + 1, none⟩ = some (.int .i64 l[k].y) := (hb.cell hbl).trans (hc k hlt 1 _ rfl)
      have c2 : wr.cell? ⟨b, o + k * 4 + 2, none⟩ = some (.int .i64 l[k].h) := (hb.cell hbl).trans (hc k hlt 2 _ rfl)
      obtain ⟨_, ⟨o1, o2⟩, ⟨o3, o4⟩, _⟩ := hok.get k hlt
      have hle := hgh.out l[k] (List.getElem_mem hlt)
      have g5 : decide (c < l[k].y + l[k].h) = false := decide_eq_false (by omega)
      clear hc hok hgh hR
      generalize l[k].y = x1 at *
      generalize l[k].h = x2 at *
      go_wp2_with fail
      go_quiet (fail)
      go_wp2_with fail
      go_roundw
      case rel => exact ⟨k + 1, by omega, by simp, below_drewN hb _⟩
      case measure => simp [intOf]; omega
    · have hge : ¬ (k : Int) < l.length := by omega
      have g6 : y ≤ c := g1
      clear h2 hok hgh
      go_wp2_with fail
      exact hR.out _ (B2.trans (hb.mono B2.size))

end Go.Proofs.Ythdlhikpjpfpeaa
