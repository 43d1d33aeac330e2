/-
  What is proved here: GridTells' comparison, one region.
  What is proved here: what OverInts does.
-/
import Derived.Test.YtkhnfmdhdfpdhaaE19
import Derived.Test.YtkhnfmdhdfpdhaaE32
import Derived.Test.YtkhnfmdhdfpdhaaE18
import Derived.Handy
namespace Go.Proofs.Ytkhnfmdhdfpdhaa
open Go.RowKit Go.Shelf

def opt15 (ps : String) : Array Oper := #[{ dst := some 85, op := Op.move (Operand.tmp 9), type := 26, pos := ps, after := #[], guard := none }, { dst := some 86, op := Op.move (Operand.tmp 11), type := 26, pos := ps, after := #[], guard := none }, { dst := some 87, op := Op.call { callee := Callee.value (Operand.func 13), args := #[Operand.tmp 85, Operand.tmp 86], argTypes := #[26, 26] }, type := 4, pos := ps, after := #[{ on := 0, ground := Ground.data }, { on := 1, ground := Ground.data }], guard := none }, { dst := some 88, op := Op.unOp UnOp.not 4 (Operand.tmp 87), type := 4, pos := ps, after := #[{ on := 2, ground := Ground.data }], guard := none }, { dst := some 89, op := Op.move (Operand.tmp 88), type := 4, pos := ps, after := #[{ on := 3, ground := Ground.data }, { on := 2, ground := Ground.chain }], guard := none }, { dst := some 90, op := Op.move (Operand.tmp 10), type := 27, pos := ps, after := #[{ on := 4, ground := Ground.guard }], guard := some (4, false) }, { dst := some 91, op := Op.move (Operand.tmp 12), type := 27, pos := ps, after := #[{ on := 4, ground := Ground.guard }], guard := some (4, false) }, { dst := some 92, op := Op.binOp BinOp.neq 27 (Operand.tmp 90) (Operand.tmp 91) 27, type := 4, pos := ps, after := #[{ on := 5, ground := Ground.data }, { on := 6, ground := Ground.data }, { on := 4, ground := Ground.guard }], guard := some (4, false) }, { dst := some 93, op := Op.pick (Operand.tmp 89) (Operand.const (Value.bool true)) (Operand.tmp 92), type := 4, pos := ps, after := #[{ on := 4, ground := Ground.data }, { on := 7, ground := Ground.data }], guard := none }, { dst := some 94, op := Op.move (Operand.tmp 93), type := 4, pos := ps, after := #[{ on := 8, ground := Ground.data }, { on := 4, ground := Ground.chain }], guard := none }, { dst := some 95, op := Op.move (Operand.tmp 13), type := 26, pos := ps, after := #[{ on := 9, ground := Ground.guard }], guard := some (9, false) }, { dst := some 96, op := Op.move (Operand.tmp 15), type := 26, pos := ps, after := #[{ on := 9, ground := Ground.guard }], guard := some (9, false) }, { dst := some 97, op := Op.call { callee := Callee.value (Operand.func 13), args := #[Operand.tmp 95, Operand.tmp 96], argTypes := #[26, 26] }, type := 4, pos := ps, after := #[{ on := 10, ground := Ground.data }, { on := 11, ground := Ground.data }, { on := 9, ground := Ground.chain }, { on := 9, ground := Ground.guard }], guard := some (9, false) }, { dst := some 98, op := Op.unOp UnOp.not 4 (Operand.tmp 97), type := 4, pos := ps, after := #[{ on := 12, ground := Ground.data }, { on := 9, ground := Ground.guard }], guard := some (9, false) }, { dst := some 99, op := Op.pick (Operand.tmp 94) (Operand.const (Value.bool true)) (Operand.tmp 98), type := 4, pos := ps, after := #[{ on := 9, ground := Ground.data }, { on := 13, ground := Ground.data }], guard := none }, { dst := some 100, op := Op.move (Operand.tmp 99), type := 4, pos := ps, after := #[{ on := 14, ground := Ground.data }, { on := 12, ground := Ground.chain }], guard := none }, { dst := some 101, op := Op.move (Operand.tmp 14), type := 27, pos := ps, after := #[{ on := 15, ground := Ground.guard }], guard := some (15, false) }, { dst := some 102, op := Op.move (Operand.tmp 16), type := 27, pos := ps, after := #[{ on := 15, ground := Ground.guard }], guard := some (15, false) }, { dst := some 103, op := Op.binOp BinOp.neq 27 (Operand.tmp 101) (Operand.tmp 102) 27, type := 4, pos := ps, after := #[{ on := 16, ground := Ground.data }, { on := 17, ground := Ground.data }, { on := 15, ground := Ground.guard }], guard := some (15, false) }, { dst := some 104, op := Op.pick (Operand.tmp 100) (Operand.const (Value.bool true)) (Operand.tmp 103), type := 4, pos := ps, after := #[{ on := 15, ground := Ground.data }, { on := 18, ground := Ground.data }], guard := none }, { dst := some 105, op := Op.move (Operand.tmp 104), type := 4, pos := ps, after := #[{ on := 19, ground := Ground.data }, { on := 15, ground := Ground.chain }], guard := none }, { dst := some 106, op := Op.move (Operand.tmp 17), type := 26, pos := ps, after := #[{ on := 20, ground := Ground.guard }], guard := some (20, false) }, { dst := some 107, op := Op.move (Operand.tmp 20), type := 26, pos := ps, after := #[{ on := 20, ground := Ground.guard }], guard := some (20, false) }, { dst := some 108, op := Op.call { callee := Callee.value (Operand.func 13), args := #[Operand.tmp 106, Operand.tmp 107], argTypes := #[26, 26] }, type := 4, pos := ps, after := #[{ on := 21, ground := Ground.data }, { on := 22, ground := Ground.data }, { on := 20, ground := Ground.chain }, { on := 20, ground := Ground.guard }], guard := some (20, false) }, { dst := some 109, op := Op.unOp UnOp.not 4 (Operand.tmp 108), type := 4, pos := ps, after := #[{ on := 23, ground := Ground.data }, { on := 20, ground := Ground.guard }], guard := some (20, false) }, { dst := some 110, op := Op.pick (Operand.tmp 105) (Operand.const (Value.bool true)) (Operand.tmp 109), type := 4, pos := ps, after := #[{ on := 20, ground := Ground.data }, { on := 24, ground := Ground.data }], guard := none }, { dst := some 111, op := Op.move (Operand.tmp 110), type := 4, pos := ps, after := #[{ on := 25, ground := Ground.data }, { on := 23, ground := Ground.chain }], guard := none }, { dst := some 112, op := Op.move (Operand.tmp 18), type := 4, pos := ps, after := #[{ on := 26, ground := Ground.guard }], guard := some (26, false) }, { dst := some 113, op := Op.move (Operand.tmp 21), type := 4, pos := ps, after := #[{ on := 26, ground := Ground.guard }], guard := some (26, false) }, { dst := some 114, op := Op.binOp BinOp.neq 4 (Operand.tmp 112) (Operand.tmp 113) 4, type := 4, pos := ps, after := #[{ on := 27, ground := Ground.data }, { on := 28, ground := Ground.data }, { on := 26, ground := Ground.guard }], guard := some (26, false) }, { dst := some 115, op := Op.pick (Operand.tmp 111) (Operand.const (Value.bool true)) (Operand.tmp 114), type := 4, pos := ps, after := #[{ on := 26, ground := Ground.data }, { on := 29, ground := Ground.data }], guard := none }, { dst := some 116, op := Op.move (Operand.tmp 115), type := 4, pos := ps, after := #[{ on := 30, ground := Ground.data }, { on := 26, ground := Ground.chain }], guard := none }, { dst := some 117, op := Op.move (Operand.tmp 19), type := 27, pos := ps, after := #[{ on := 31, ground := Ground.guard }], guard := some (31, false) }, { dst := some 118, op := Op.move (Operand.tmp 22), type := 27, pos := ps, after := #[{ on := 31, ground := Ground.guard }], guard := some (31, false) }, { dst := some 119, op := Op.binOp BinOp.neq 27 (Operand.tmp 117) (Operand.tmp 118) 27, type := 4, pos := ps, after := #[{ on := 32, ground := Ground.data }, { on := 33, ground := Ground.data }, { on := 31, ground := Ground.guard }], guard := some (31, false) }, { dst := some 120, op := Op.pick (Operand.tmp 116) (Operand.const (Value.bool true)) (Operand.tmp 119), type := 4, pos := ps, after := #[{ on := 31, ground := Ground.data }, { on := 34, ground := Ground.data }], guard := none }, { dst := some 121, op := Op.move (Operand.tmp 120), type := 4, pos := ps, after := #[{ on := 35, ground := Ground.data }, { on := 31, ground := Ground.chain }], guard := none }, { dst := some 122, op := Op.load 24 (Operand.tmp 8), type := 24, pos := ps, after := #[{ on := 36, ground := Ground.guard }], guard := some (36, false) }, { dst := some 123, op := Op.call { callee := Callee.value (Operand.func 14), args := #[Operand.tmp 122], argTypes := #[24] }, type := 27, pos := ps, after := #[{ on := 37, ground := Ground.data }, { on := 36, ground := Ground.chain }, { on := 36, ground := Ground.guard }], guard := some (36, false) }, { dst := some 124, op := Op.load 24 (Operand.tmp 3), type := 24, pos := ps, after := #[{ on := 36, ground := Ground.guard }], guard := some (36, false) }, { dst := some 125, op := Op.call { callee := Callee.value (Operand.func 15), args := #[Operand.tmp 124], argTypes := #[24] }, type := 27, pos := ps, after := #[{ on := 39, ground := Ground.data }, { on := 38, ground := Ground.chain }, { on := 36, ground := Ground.guard }], guard := some (36, false) }, { dst := some 126, op := Op.binOp BinOp.neq 27 (Operand.tmp 123) (Operand.tmp 125) 27, type := 4, pos := ps, after := #[{ on := 38, ground := Ground.data }, { on := 40, ground := Ground.data }, { on := 36, ground := Ground.guard }], guard := some (36, false) }, { dst := some 127, op := Op.pick (Operand.tmp 121) (Operand.const (Value.bool true)) (Operand.tmp 126), type := 4, pos := ps, after := #[{ on := 36, ground := Ground.data }, { on := 41, ground := Ground.data }], guard := none }, { dst := some 128, op := Op.move (Operand.tmp 127), type := 4, pos := ps, after := #[{ on := 42, ground := Ground.data }, { on := 40, ground := Ground.chain }], guard := none }, { dst := some 129, op := Op.move (Operand.tmp 2), type := 9, pos := ps, after := #[{ on := 43, ground := Ground.guard }], guard := some (43, false) }, { dst := some 130, op := Op.call { callee := Callee.value (Operand.func 17), args := #[Operand.tmp 129], argTypes := #[9] }, type := 39, pos := ps, after := #[{ on := 44, ground := Ground.data }, { on := 43, ground := Ground.chain }, { on := 43, ground := Ground.guard }], guard := some (43, false) }, { dst := some 131, op := Op.move (Operand.tmp 2), type := 9, pos := ps, after := #[{ on := 43, ground := Ground.guard }], guard := some (43, false) }, { dst := some 132, op := Op.call { callee := Callee.value (Operand.func 18), args := #[Operand.tmp 131], argTypes := #[9] }, type := 39, pos := ps, after := #[{ on := 46, ground := Ground.data }, { on := 45, ground := Ground.chain }, { on := 43, ground := Ground.guard }], guard := some (43, false) }, { dst := some 133, op := Op.call { callee := Callee.value (Operand.func 16), args := #[Operand.tmp 130, Operand.tmp 132], argTypes := #[39, 39] }, type := 4, pos := ps, after := #[{ on := 45, ground := Ground.data }, { on := 47, ground := Ground.data }, { on := 47, ground := Ground.chain }, { on := 43, ground := Ground.guard }], guard := some (43, false) }, { dst := some 134, op := Op.unOp UnOp.not 4 (Operand.tmp 133), type := 4, pos := ps, after := #[{ on := 48, ground := Ground.data }, { on := 43, ground := Ground.guard }], guard := some (43, false) }, { dst := some 135, op := Op.pick (Operand.tmp 128) (Operand.const (Value.bool true)) (Operand.tmp 134), type := 4, pos := ps, after := #[{ on := 43, ground := Ground.data }, { on := 49, ground := Ground.data }], guard := none }]

set_option maxRecDepth 100000 in
set_option maxHeartbeats 8000000 in
theorem tells_r15 (Q : Exit → Act → World → Prop) (hQ : ∀ c x (n : Nat) v w, Q (.panic c) (x.put (some n) v) w → Q (.panic c) x w) (id : Nat) (ps : String) (b3 b8 : Nat) (c x1 x2 x3 x4 : Int) (bb : Bool) (t : ByteArray) (vin vt : Value) {v0 v1 v4 v5 v6 v7 v9 v11 v13 v15 v17 v20 v23 v24 v25 v26 v27 v28 v29 v30 v31 v32 v33 v34 v35 v36 v37 v38 v39 v40 v41 v42 v43 v44 v45 v46 v47 v48 v49 v50 v51 v52 v53 v54 v55 v56 v57 v58 v59 v60 v61 v62 v63 v64 v65 v66 v67 v68 v69 v70 v71 v72 v73 v74 v75 v76 v77 v78 v79 v80 v81 v82 v83 v84 v85 v86 v87 v88 v89 v90 v91 v92 v93 v94 v95 v96 v97 v98 v99 v100 v101 v102 v103 v104 v105 v106 v107 v108 v109 v110 v111 v112 v113 v114 v115 v116 v117 v118 v119 v120 v121 v122 v123 v124 v125 v126 v127 v128 v129 v130 v131 v132 v133 v134 v135 v136 v137 v138 v139 v140 v141 v142 v143 v144 v145 v146 v147 v148 v149 v150 v151 v152 v153 v154 v155 v156 v157 v158 v159 : Value} (w0 : World)
    (h8 : TI w0 b8 c vin) (h3 : TI w0 b3 c vt)
    (hC1 : ∀ W, Below w0.heap.size w0 W → Calls Try.prog 13 #[v9, v11] W fun e w' => e = .returned (.bool true) ∧ Below w0.heap.size w0 w')
    (hC2 : ∀ W, Below w0.heap.size w0 W → Calls Try.prog 13 #[v13, v15] W fun e w' => e = .returned (.bool true) ∧ Below w0.heap.size w0 w')
    (hC3 : ∀ W, Below w0.heap.size w0 W → Calls Try.prog 13 #[v17, v20] W fun e w' => e = .returned (.bool true) ∧ Below w0.heap.size w0 w')
    (hD14 : ∀ W, Below w0.heap.size w0 W → Calls Try.prog 14 #[.agg #[.int .i64 c, vin]] W fun e w' => e = .returned (.int .i64 x4) ∧ Below w0.heap.size w0 w')
    (hD15 : ∀ W, Below w0.heap.size w0 W → Calls Try.prog 15 #[.agg #[.int .i64 c, vt]] W fun e w' => e = .returned (.int .i64 x4) ∧ Below w0.heap.size w0 w')
    (hE17 : ∀ W, Below w0.heap.size w0 W → Calls Try.prog 17 #[.string t] W fun e w' => ∃ sv, e = .returned (paV (cellPa t sv)) ∧ PaAt w' (cellPa t sv) ∧ Below w0.heap.size w0 w')
    (hE18 : ∀ W sv, Below w0.heap.size w0 W → PaAt W (cellPa t sv) → Calls Try.prog 18 #[.string t] W fun e w' => ∃ sv', e = .returned (paV (cellPa t sv')) ∧ PaAt w' (cellPa t sv') ∧ PaAt w' (cellPa t sv) ∧ Below w0.heap.size w0 w')
    (hE16 : ∀ W sv sv', Below w0.heap.size w0 W → PaAt W (cellPa t sv) → PaAt W (cellPa t sv') → Calls Try.prog 16 #[paV (cellPa t sv), paV (cellPa t sv')] W fun e w' => e = .returned (.bool true) ∧ Below w0.heap.size w0 w')
    (hK : ∀ sv sv' W', Below w0.heap.size w0 W' → Q .normal { tmps := #[v0, v1, .string t, .pointer (some ⟨b3, 0, none⟩), v4, v5, v6, v7, .pointer (some ⟨b8, 0, none⟩), v9, .int .i64 x1, v11, .int .i64 x1, v13, .int .i64 x2, v15, .int .i64 x2, v17, .bool bb, .int .i64 x3, v20, .bool bb, .int .i64 x3, v23, v24, v25, v26, v27, v28, v29, v30, v31, v32, v33, v34, v35, v36, v37, v38, v39, v40, v41, v42, v43, v44, v45, v46, v47, v48, v49, v50, v51, v52, v53, v54, v55, v56, v57, v58, v59, v60, v61, v62, v63, v64, v65, v66, v67, v68, v69, v70, v71, v72, v73, v74, v75, v76, v77, v78, v79, v80, v81, v82, v83, v84, v9, v11, .bool true, .bool false, .bool false, .int .i64 x1, .int .i64 x1, .bool false, .bool false, .bool false, v13, v15, .bool true, .bool false, .bool false, .bool false, .int .i64 x2, .int .i64 x2, .bool false, .bool false, .bool false, v17, v20, .bool true, .bool false, .bool false, .bool false, .bool bb, .bool bb, .bool false, .bool false, .bool false, .int .i64 x3, .int .i64 x3, .bool false, .bool false, .bool false, .agg #[.int .i64 c, vin], .int .i64 x4, .agg #[.int .i64 c, vt], .int .i64 x4, .bool false, .bool false, .bool false, .string t, paV (cellPa t sv), .string t, paV (cellPa t sv'), .bool true, .bool false, .bool false, v136, v137, v138, v139, v140, v141, v142, v143, v144, v145, v146, v147, v148, v149, v150, v151, v152, v153, v154, v155, v156, v157, v158, v159], defers := [] } W') :
    (Code.region id (opt15 ps) true).wp Try.prog Q { tmps := #[v0, v1, .string t, .pointer (some ⟨b3, 0, none⟩), v4, v5, v6, v7, .pointer (some ⟨b8, 0, none⟩), v9, .int .i64 x1, v11, .int .i64 x1, v13, .int .i64 x2, v15, .int .i64 x2, v17, .bool bb, .int .i64 x3, v20, .bool bb, .int .i64 x3, v23, v24, v25, v26, v27, v28, v29, v30, v31, v32, v33, v34, v35, v36, v37, v38, v39, v40, v41, v42, v43, v44, v45, v46, v47, v48, v49, v50, v51, v52, v53, v54, v55, v56, v57, v58, v59, v60, v61, v62, v63, v64, v65, v66, v67, v68, v69, v70, v71, v72, v73, v74, v75, v76, v77, v78, v79, v80, v81, v82, v83, v84, v85, v86, v87, v88, v89, v90, v91, v92, v93, v94, v95, v96, v97, v98, v99, v100, v101, v102, v103, v104, v105, v106, v107, v108, v109, v110, v111, v112, v113, v114, v115, v116, v117, v118, v119, v120, v121, v122, v123, v124, v125, v126, v127, v128, v129, v130, v131, v132, v133, v134, v135, v136, v137, v138, v139, v140, v141, v142, v143, v144, v145, v146, v147, v148, v149, v150, v151, v152, v153, v154, v155, v156, v157, v158, v159], defers := [] } w0 := by
  refine wp_region_held (S := fun W => Below w0.heap.size w0 W) (by kernel_rfl) ?_
  change wpAnyH _ _ _ _ _ 51 _ _ (World.drew w0)
  have hb0 : Below w0.heap.size w0 w0.drew := ⟨rfl, rfl, rfl, Nat.le_refl _, fun _ _ => rfl⟩
  have hl8 := h8.lt
  have hl3 := h3.lt
  generalize w0.drew = wd at hb0 ⊢
  unfold opt15
  refine wpAnyH_take (i := 0) (v := v9) rfl (by kernel_rfl) (by kernel_rfl) (by kernel_rfl) (fun c x w => hQ c x _ _ w) (Or.inl ⟨by rfl, ?y0⟩) hb0 ?_
  case y0 => (intro w' hw'; go_simp)
  go_simp
  refine wpAnyH_take (i := 1) (v := v11) rfl (by kernel_rfl) (by kernel_rfl) (by kernel_rfl) (fun c x w => hQ c x _ _ w) (Or.inl ⟨by rfl, ?y1⟩) hb0 ?_
  case y1 => (intro w' hw'; go_simp)
  go_simp
  refine want_h (i := 2) (by kernel_rfl) rfl (by kernel_rfl) fun K hK' => ?_
  go_simp
  refine (hC1 _ hb0).mono ?_
  rintro e w1 ⟨rfl, hb1⟩
  refine hK' _ _ hb1 ?_
  clear hK' K
  go_simp
  refine wpAnyH_take (i := 3) (v := .bool false) rfl (by kernel_rfl) (by kernel_rfl) (by kernel_rfl) (fun c x w => hQ c x _ _ w) (Or.inl ⟨by rfl, ?y3⟩) hb1 ?_
  case y3 => (intro w' hw'; go_simp)
  go_simp
  refine wpAnyH_take (i := 4) (v := .bool false) rfl (by kernel_rfl) (by kernel_rfl) (by kernel_rfl) (fun c x w => hQ c x _ _ w) (Or.inl ⟨by rfl, ?y4⟩) hb1 ?_
  case y4 => (intro w' hw'; go_simp)
  go_simp
  refine wpAnyH_take (i := 5) (v := .int .i64 x1) rfl (by kernel_rfl) (by kernel_rfl) (by kernel_rfl) (fun c x w => hQ c x _ _ w) (Or.inl ⟨by rfl, ?y5⟩) hb1 ?_
  case y5 => (intro w' hw'; go_simp)
  go_simp
  refine wpAnyH_take (i := 6) (v := .int .i64 x1) rfl (by kernel_rfl) (by kernel_rfl) (by kernel_rfl) (fun c x w => hQ c x _ _ w) (Or.inl ⟨by rfl, ?y6⟩) hb1 ?_
  case y6 => (intro w' hw'; go_simp)
  go_simp
  refine wpAnyH_take (i := 7) (v := .bool false) rfl (by kernel_rfl) (by kernel_rfl) (by kernel_rfl) (fun c x w => hQ c x _ _ w) (Or.inl ⟨by rfl, ?y7⟩) hb1 ?_
  case y7 => (intro w' hw'; go_simp)
  go_simp
  refine wpAnyH_take (i := 8) (v := .bool false) rfl (by kernel_rfl) (by kernel_rfl) (by kernel_rfl) (fun c x w => hQ c x _ _ w) (Or.inl ⟨by rfl, ?y8⟩) hb1 ?_
  case y8 => (intro w' hw'; go_simp)
  go_simp
  refine wpAnyH_take (i := 9) (v := .bool false) rfl (by kernel_rfl) (by kernel_rfl) (by kernel_rfl) (fun c x w => hQ c x _ _ w) (Or.inl ⟨by rfl, ?y9⟩) hb1 ?_
  case y9 => (intro w' hw'; go_simp)
  go_simp
  refine wpAnyH_take (i := 10) (v := v13) rfl (by kernel_rfl) (by kernel_rfl) (by kernel_rfl) (fun c x w => hQ c x _ _ w) (Or.inl ⟨by rfl, ?y10⟩) hb1 ?_
  case y10 => (intro w' hw'; go_simp)
  go_simp
  refine wpAnyH_take (i := 11) (v := v15) rfl (by kernel_rfl) (by kernel_rfl) (by kernel_rfl) (fun c x w => hQ c x _ _ w) (Or.inl ⟨by rfl, ?y11⟩) hb1 ?_
  case y11 => (intro w' hw'; go_simp)
  go_simp
  refine want_h (i := 12) (by kernel_rfl) rfl (by kernel_rfl) fun K hK' => ?_
  go_simp
  refine (hC2 _ hb1).mono ?_
  rintro e w2 ⟨rfl, hb2⟩
  refine hK' _ _ hb2 ?_
  clear hK' K
  go_simp
  refine wpAnyH_take (i := 13) (v := .bool false) rfl (by kernel_rfl) (by kernel_rfl) (by kernel_rfl) (fun c x w => hQ c x _ _ w) (Or.inl ⟨by rfl, ?y13⟩) hb2 ?_
  case y13 => (intro w' hw'; go_simp)
  go_simp
  refine wpAnyH_take (i := 14) (v := .bool false) rfl (by kernel_rfl) (by kernel_rfl) (by kernel_rfl) (fun c x w => hQ c x _ _ w) (Or.inl ⟨by rfl, ?y14⟩) hb2 ?_
  case y14 => (intro w' hw'; go_simp)
  go_simp
  refine wpAnyH_take (i := 15) (v := .bool false) rfl (by kernel_rfl) (by kernel_rfl) (by kernel_rfl) (fun c x w => hQ c x _ _ w) (Or.inl ⟨by rfl, ?y15⟩) hb2 ?_
  case y15 => (intro w' hw'; go_simp)
  go_simp
  refine wpAnyH_take (i := 16) (v := .int .i64 x2) rfl (by kernel_rfl) (by kernel_rfl) (by kernel_rfl) (fun c x w => hQ c x _ _ w) (Or.inl ⟨by rfl, ?y16⟩) hb2 ?_
  case y16 => (intro w' hw'; go_simp)
  go_simp
  refine wpAnyH_take (i := 17) (v := .int .i64 x2) rfl (by kernel_rfl) (by kernel_rfl) (by kernel_rfl) (fun c x w => hQ c x _ _ w) (Or.inl ⟨by rfl, ?y17⟩) hb2 ?_
  case y17 => (intro w' hw'; go_simp)
  go_simp
  refine wpAnyH_take (i := 18) (v := .bool false) rfl (by kernel_rfl) (by kernel_rfl) (by kernel_rfl) (fun c x w => hQ c x _ _ w) (Or.inl ⟨by rfl, ?y18⟩) hb2 ?_
  case y18 => (intro w' hw'; go_simp)
  go_simp
  refine wpAnyH_take (i := 19) (v := .bool false) rfl (by kernel_rfl) (by kernel_rfl) (by kernel_rfl) (fun c x w => hQ c x _ _ w) (Or.inl ⟨by rfl, ?y19⟩) hb2 ?_
  case y19 => (intro w' hw'; go_simp)
  go_simp
  refine wpAnyH_take (i := 20) (v := .bool false) rfl (by kernel_rfl) (by kernel_rfl) (by kernel_rfl) (fun c x w => hQ c x _ _ w) (Or.inl ⟨by rfl, ?y20⟩) hb2 ?_
  case y20 => (intro w' hw'; go_simp)
  go_simp
  refine wpAnyH_take (i := 21) (v := v17) rfl (by kernel_rfl) (by kernel_rfl) (by kernel_rfl) (fun c x w => hQ c x _ _ w) (Or.inl ⟨by rfl, ?y21⟩) hb2 ?_
  case y21 => (intro w' hw'; go_simp)
  go_simp
  refine wpAnyH_take (i := 22) (v := v20) rfl (by kernel_rfl) (by kernel_rfl) (by kernel_rfl) (fun c x w => hQ c x _ _ w) (Or.inl ⟨by rfl, ?y22⟩) hb2 ?_
  case y22 => (intro w' hw'; go_simp)
  go_simp
  refine want_h (i := 23) (by kernel_rfl) rfl (by kernel_rfl) fun K hK' => ?_
  go_simp
  refine (hC3 _ hb2).mono ?_
  rintro e w3 ⟨rfl, hb3⟩
  refine hK' _ _ hb3 ?_
  clear hK' K
  go_simp
  refine wpAnyH_take (i := 24) (v := .bool false) rfl (by kernel_rfl) (by kernel_rfl) (by kernel_rfl) (fun c x w => hQ c x _ _ w) (Or.inl ⟨by rfl, ?y24⟩) hb3 ?_
  case y24 => (intro w' hw'; go_simp)
  go_simp
  refine wpAnyH_take (i := 25) (v := .bool false) rfl (by kernel_rfl) (by kernel_rfl) (by kernel_rfl) (fun c x w => hQ c x _ _ w) (Or.inl ⟨by rfl, ?y25⟩) hb3 ?_
  case y25 => (intro w' hw'; go_simp)
  go_simp
  refine wpAnyH_take (i := 26) (v := .bool false) rfl (by kernel_rfl) (by kernel_rfl) (by kernel_rfl) (fun c x w => hQ c x _ _ w) (Or.inl ⟨by rfl, ?y26⟩) hb3 ?_
  case y26 => (intro w' hw'; go_simp)
  go_simp
  refine wpAnyH_take (i := 27) (v := .bool bb) rfl (by kernel_rfl) (by kernel_rfl) (by kernel_rfl) (fun c x w => hQ c x _ _ w) (Or.inl ⟨by rfl, ?y27⟩) hb3 ?_
  case y27 => (intro w' hw'; go_simp)
  go_simp
  refine wpAnyH_take (i := 28) (v := .bool bb) rfl (by kernel_rfl) (by kernel_rfl) (by kernel_rfl) (fun c x w => hQ c x _ _ w) (Or.inl ⟨by rfl, ?y28⟩) hb3 ?_
  case y28 => (intro w' hw'; go_simp)
  go_simp
  refine wpAnyH_take (i := 29) (v := .bool false) rfl (by kernel_rfl) (by kernel_rfl) (by kernel_rfl) (fun c x w => hQ c x _ _ w) (Or.inl ⟨by rfl, ?y29⟩) hb3 ?_
  case y29 => (intro w' hw'; go_simp)
  go_simp
  refine wpAnyH_take (i := 30) (v := .bool false) rfl (by kernel_rfl) (by kernel_rfl) (by kernel_rfl) (fun c x w => hQ c x _ _ w) (Or.inl ⟨by rfl, ?y30⟩) hb3 ?_
  case y30 => (intro w' hw'; go_simp)
  go_simp
  refine wpAnyH_take (i := 31) (v := .bool false) rfl (by kernel_rfl) (by kernel_rfl) (by kernel_rfl) (fun c x w => hQ c x _ _ w) (Or.inl ⟨by rfl, ?y31⟩) hb3 ?_
  case y31 => (intro w' hw'; go_simp)
  go_simp
  refine wpAnyH_take (i := 32) (v := .int .i64 x3) rfl (by kernel_rfl) (by kernel_rfl) (by kernel_rfl) (fun c x w => hQ c x _ _ w) (Or.inl ⟨by rfl, ?y32⟩) hb3 ?_
  case y32 => (intro w' hw'; go_simp)
  go_simp
  refine wpAnyH_take (i := 33) (v := .int .i64 x3) rfl (by kernel_rfl) (by kernel_rfl) (by kernel_rfl) (fun c x w => hQ c x _ _ w) (Or.inl ⟨by rfl, ?y33⟩) hb3 ?_
  case y33 => (intro w' hw'; go_simp)
  go_simp
  refine wpAnyH_take (i := 34) (v := .bool false) rfl (by kernel_rfl) (by kernel_rfl) (by kernel_rfl) (fun c x w => hQ c x _ _ w) (Or.inl ⟨by rfl, ?y34⟩) hb3 ?_
  case y34 => (intro w' hw'; go_simp)
  go_simp
  refine wpAnyH_take (i := 35) (v := .bool false) rfl (by kernel_rfl) (by kernel_rfl) (by kernel_rfl) (fun c x w => hQ c x _ _ w) (Or.inl ⟨by rfl, ?y35⟩) hb3 ?_
  case y35 => (intro w' hw'; go_simp)
  go_simp
  refine wpAnyH_take (i := 36) (v := .bool false) rfl (by kernel_rfl) (by kernel_rfl) (by kernel_rfl) (fun c x w => hQ c x _ _ w) (Or.inl ⟨by rfl, ?y36⟩) hb3 ?_
  case y36 => (intro w' hw'; go_simp)
  go_simp
  refine wpAnyH_take (i := 37) (v := .agg #[.int .i64 c, vin]) rfl (by kernel_rfl) (by kernel_rfl) (by kernel_rfl) (fun c x w => hQ c x _ _ w) (Or.inl ⟨by rfl, ?y37⟩) hb3 ?_
  case y37 => (intro w' hw'; have h8' := h8.below hw' hl8; have c0 := h8'.c0; have c1 := h8'.c1; go_simp)
  go_simp
  refine wpAnyH_take (i := 39) (v := .agg #[.int .i64 c, vt]) rfl (by kernel_rfl) (by kernel_rfl) (by kernel_rfl) (fun c x w => hQ c x _ _ w) (Or.inl ⟨by rfl, ?y39⟩) hb3 ?_
  case y39 => (intro w' hw'; have h3' := h3.below hw' hl3; have c0 := h3'.c0; have c1 := h3'.c1; go_simp)
  go_simp
  refine want_h (i := 38) (by kernel_rfl) rfl (by kernel_rfl) fun K hK' => ?_
  go_simp
  refine (hD14 _ hb3).mono ?_
  rintro e w4 ⟨rfl, hb4⟩
  refine hK' _ _ hb4 ?_
  clear hK' K
  go_simp
  refine want_h (i := 40) (by kernel_rfl) rfl (by kernel_rfl) fun K hK' => ?_
  go_simp
  refine (hD15 _ hb4).mono ?_
  rintro e w5 ⟨rfl, hb5⟩
  refine hK' _ _ hb5 ?_
  clear hK' K
  go_simp
  refine wpAnyH_take (i := 41) (v := .bool false) rfl (by kernel_rfl) (by kernel_rfl) (by kernel_rfl) (fun c x w => hQ c x _ _ w) (Or.inl ⟨by rfl, ?y41⟩) hb5 ?_
  case y41 => (intro w' hw'; go_simp)
  go_simp
  refine wpAnyH_take (i := 42) (v := .bool false) rfl (by kernel_rfl) (by kernel_rfl) (by kernel_rfl) (fun c x w => hQ c x _ _ w) (Or.inl ⟨by rfl, ?y42⟩) hb5 ?_
  case y42 => (intro w' hw'; go_simp)
  go_simp
  refine wpAnyH_take (i := 43) (v := .bool false) rfl (by kernel_rfl) (by kernel_rfl) (by kernel_rfl) (fun c x w => hQ c x _ _ w) (Or.inl ⟨by rfl, ?y43⟩) hb5 ?_
  case y43 => (intro w' hw'; go_simp)
  go_simp
  refine wpAnyH_take (i := 44) (v := .string t) rfl (by kernel_rfl) (by kernel_rfl) (by kernel_rfl) (fun c x w => hQ c x _ _ w) (Or.inl ⟨by rfl, ?y44⟩) hb5 ?_
  case y44 => (intro w' hw'; go_simp)
  go_simp
  refine wpAnyH_take (i := 46) (v := .string t) rfl (by kernel_rfl) (by kernel_rfl) (by kernel_rfl) (fun c x w => hQ c x _ _ w) (Or.inl ⟨by rfl, ?y46⟩) hb5 ?_
  case y46 => (intro w' hw'; go_simp)
  go_simp
  refine want_h (i := 45) (by kernel_rfl) rfl (by kernel_rfl) fun K hK' => ?_
  go_simp
  refine (hE17 _ hb5).mono ?_
  rintro e w6 ⟨sv, rfl, hp1, hb6⟩
  refine hK' _ _ hb6 ?_
  clear hK' K
  go_simp
  refine want_h (i := 47) (by kernel_rfl) rfl (by kernel_rfl) fun K hK' => ?_
  go_simp
  refine (hE18 _ sv hb6 hp1).mono ?_
  rintro e w7 ⟨sv', rfl, hp2, hp3, hb7⟩
  refine hK' _ _ hb7 ?_
  clear hK' K
  go_simp
  refine want_h (i := 48) (by kernel_rfl) rfl (by kernel_rfl) fun K hK' => ?_
  go_simp
  refine (hE16 _ sv sv' hb7 hp3 hp2).mono ?_
  rintro e w8 ⟨rfl, hb8⟩
  refine hK' _ _ hb8 ?_
  clear hK' K
  go_simp
  refine wpAnyH_take (i := 49) (v := .bool false) rfl (by kernel_rfl) (by kernel_rfl) (by kernel_rfl) (fun c x w => hQ c x _ _ w) (Or.inl ⟨by rfl, ?y49⟩) hb8 ?_
  case y49 => (intro w' hw'; go_simp)
  go_simp
  refine wpAnyH_take (i := 50) (v := .bool false) rfl (by kernel_rfl) (by kernel_rfl) (by kernel_rfl) (fun c x w => hQ c x _ _ w) (Or.inl ⟨by rfl, ?y50⟩) hb8 ?_
  case y50 => (intro w' hw'; go_simp)
  go_simp
  exact wpAnyH_done (by kernel_rfl) (hK sv sv' _ hb8) _
end Go.Proofs.Ytkhnfmdhdfpdhaa

namespace Go.Proofs.Ytkhnfmdhdfpdhaa
open Go.RowKit Go.Shelf

set_option maxRecDepth 100000 in
set_option maxHeartbeats 4000000 in
theorem overInts_any (g n cap : Nat) (cur : Array Value) (_hn : n ≤ cap) (hcap : cap ≤ maxLen) (hsz : cur.size = cap) (hI : ∀ u ∈ cur.toList, IsI u) (w : World) (h : w.heap[g]? = some (.cells cur 3 (0, 0))) :
    Calls Try.prog 19 #[.slice (some ⟨g, 0, none⟩) n cap] w fun e w' => e = .returned (.tuple #[]) ∧ Turns (fun k => k = g) w w' := by
  unfold maxLen at hcap
  have hh : Hid (w.heap[g]? = some (.cells cur 3 (0, 0))) := h
  have hI' : Hid (∀ (j : Nat) (hj : j < cur.size), 0 ≤ j → IsI cur[j]) := fun j hj _ => hI _ (by simp)
  clear h hI
  go_enter Try.func19, Try.ntmps19
  go_wp2_with fail
  go_loopw [3] (fun i wr => ∃ (k : Nat) (c2 : Array Value), k ≤ cap ∧ i = .int .i64 k ∧ Hid (Turns (fun k => k = g) w wr) ∧ c2.size = cap ∧ Hid (wr.heap[g]? = some (.cells c2 3 (0, 0))) ∧ Hid (∀ (j : Nat) (hj : j < c2.size), k ≤ j → IsI c2[j])) (fun i _ => cap - (intOf i).toNat)
  case atStart => exact ⟨0, cur, by omega, rfl, Turns.refl _ _, hsz, hh, hI'⟩
  case round =>
    obtain ⟨k, c2, hk, rfl, hT, hc2, hS, hIs⟩ := hrel
    by_cases hlt : k < cap
    · have hkl : (k : Int) < cap := by omega
      have hk2 : k < c2.size := by omega
      obtain ⟨x, hx, hx1, hx2⟩ := hIs.out k hk2 (Nat.le_refl _)
      have c0 : wr.cell? ⟨g, k, none⟩ = some (.int .i64 x) := by rw [Lib.cell_of_heap hS.out, Array.getElem?_eq_getElem hk2, hx]
      have f0 : wr.frozen? ⟨g, k, none⟩ = false := Lib.frozen_of_heap hS.out _
      have hend : Hid (∀ y : Value, Turns (fun k => k = g) w (wr.setCell ⟨g, k, none⟩ y) ∧ ∃ c3 : Array Value, c3.size = cap ∧ (wr.setCell ⟨g, k, none⟩ y).heap[g]? = some (.cells c3 3 (0, 0)) ∧ ∀ (j : Nat) (hj : j < c3.size), k + 1 ≤ j → IsI c3[j]) := fun y => by
        refine ⟨hT.out.trans (Turns.setCell (X := fun k => k = g) wr (p := ⟨g, k, none⟩) rfl y), c2.setIfInBounds k y, by simp [hc2], heap_setCell_same wr g k _ 3 y hS.out, fun j hj hkj => ?_⟩
        rw [Array.getElem_setIfInBounds_ne (by simpa using hj) (by omega)]
        exact hIs.out j (by simpa using hj) (by omega)
      clear hS hT hIs hx
      go_wp2_with fail
      obtain ⟨hT3, c3, h31, h32, h33⟩ := hend.out _
      have hT3' : Hid _ := hT3
      have h32' : Hid _ := h32
      have h33' : Hid _ := h33
      clear hT3 h32 h33
      go_roundw
      case rel => exact ⟨k + 1, c3, by omega, by simp, hT3', h31, h32', h33'⟩
      case measure => simp [intOf]; omega
    · have hkl : ¬ (k : Int) < cap := by omega
      clear hS hIs
      go_wp2_with fail
      go_returns
      exact ⟨rfl, hT.out⟩
set_option maxRecDepth 100000 in
set_option maxHeartbeats 4000000 in
theorem overInts_nil (w : World) : Calls Try.prog 19 #[.slice none 0 0] w fun e w' => e = .returned (.tuple #[]) ∧ w' = w := by
  go_enter Try.func19, Try.ntmps19
  go_wp2_with fail
  go_loopw [3] (fun i wr => i = .int .i64 0 ∧ wr = w) (fun _ _ => 0)
  case atStart => exact ⟨rfl, rfl⟩
  case round =>
    obtain ⟨rfl, rfl⟩ := hrel
    go_wp2_with fail
    go_returns
    exact ⟨rfl, rfl⟩
/-- A row of numbers of one's own can be written over. -/
theorem overInts_row {base n : Nat} {v : Value} {xs : List Value} (w : World) (hr : w.ownsRow base 3 1 v n xs) (ha : AllI w v) :
    Calls Try.prog 19 #[v] w fun e w' => e = .returned (.tuple #[]) ∧ Turns (fun k => v.ownBlock = some k) w w' := by
  rcases hr.2 with ⟨rfl, _⟩ | ⟨g, cap, cur, rfl, hb, hg, hnc, hcm, hcs, _⟩
  · refine (overInts_nil w).mono ?_
    rintro e w' ⟨rfl, rfl⟩
    exact ⟨rfl, Turns.refl _ _⟩
  · refine (overInts_any g n cap cur hnc hcm (by rw [hcs, Nat.mul_one]) (ha g n cap cur rfl hg) w hg).mono ?_
    rintro e w' ⟨rfl, ht⟩
    exact ⟨rfl, ht.mono (fun k hk => by rw [hk]; rfl)⟩
end Go.Proofs.Ytkhnfmdhdfpdhaa
