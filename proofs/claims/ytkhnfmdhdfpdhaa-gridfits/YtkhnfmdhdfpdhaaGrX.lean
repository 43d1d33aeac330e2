/-
  What is proved here: GridFits' test of a width where the table is tight.
-/
import Derived.Test.YtkhnfmdhdfpdhaaGrS
namespace Go.Proofs.Ytkhnfmdhdfpdhaa
open Go.RowKit Go.Shelf

def opf14 (ps : String) : Array Oper := #[{ dst := some 99, op := Op.move (Operand.tmp 6), type := 26, pos := ps, after := #[], guard := none }, { dst := some 100, op := Op.move (Operand.tmp 13), type := 3, pos := ps, after := #[], guard := none }, { dst := some 101, op := Op.indexAddr 26 (Operand.tmp 99) (Operand.tmp 100), type := 0, pos := ps, after := #[{ on := 0, ground := Ground.data }, { on := 1, ground := Ground.data }], guard := none }, { dst := some 102, op := Op.load 3 (Operand.tmp 101), type := 3, pos := ps, after := #[{ on := 2, ground := Ground.data }], guard := none }, { dst := some 103, op := Op.binOp BinOp.lss 3 (Operand.tmp 102) (Operand.const (Value.int IntKind.i64 0)) 3, type := 4, pos := ps, after := #[{ on := 3, ground := Ground.data }], guard := none }, { dst := some 104, op := Op.move (Operand.tmp 103), type := 4, pos := ps, after := #[{ on := 4, ground := Ground.data }], guard := none }, { dst := some 105, op := Op.move (Operand.tmp 7), type := 4, pos := ps, after := #[{ on := 5, ground := Ground.guard }], guard := some (5, false) }, { dst := some 106, op := Op.unOp UnOp.not 4 (Operand.tmp 105), type := 4, pos := ps, after := #[{ on := 6, ground := Ground.data }, { on := 5, ground := Ground.guard }], guard := some (5, false) }, { dst := some 107, op := Op.move (Operand.tmp 106), type := 4, pos := ps, after := #[{ on := 7, ground := Ground.data }, { on := 5, ground := Ground.chain }, { on := 5, ground := Ground.guard }], guard := some (5, false) }, { dst := some 108, op := Op.move (Operand.tmp 6), type := 26, pos := ps, after := #[{ on := 8, ground := Ground.guard }], guard := some (8, true) }, { dst := some 109, op := Op.move (Operand.tmp 13), type := 3, pos := ps, after := #[{ on := 8, ground := Ground.guard }], guard := some (8, true) }, { dst := some 110, op := Op.indexAddr 26 (Operand.tmp 108) (Operand.tmp 109), type := 0, pos := ps, after := #[{ on := 9, ground := Ground.data }, { on := 10, ground := Ground.data }, { on := 8, ground := Ground.guard }], guard := some (8, true) }, { dst := some 111, op := Op.load 3 (Operand.tmp 110), type := 3, pos := ps, after := #[{ on := 11, ground := Ground.data }, { on := 8, ground := Ground.guard }], guard := some (8, true) }, { dst := some 112, op := Op.move (Operand.tmp 9), type := 26, pos := ps, after := #[{ on := 8, ground := Ground.guard }], guard := some (8, true) }, { dst := some 113, op := Op.move (Operand.tmp 13), type := 3, pos := ps, after := #[{ on := 8, ground := Ground.guard }], guard := some (8, true) }, { dst := some 114, op := Op.indexAddr 26 (Operand.tmp 112) (Operand.tmp 113), type := 0, pos := ps, after := #[{ on := 13, ground := Ground.data }, { on := 14, ground := Ground.data }, { on := 8, ground := Ground.guard }], guard := some (8, true) }, { dst := some 115, op := Op.load 3 (Operand.tmp 114), type := 3, pos := ps, after := #[{ on := 15, ground := Ground.data }, { on := 8, ground := Ground.guard }], guard := some (8, true) }, { dst := some 116, op := Op.binOp BinOp.lss 3 (Operand.tmp 111) (Operand.tmp 115) 3, type := 4, pos := ps, after := #[{ on := 12, ground := Ground.data }, { on := 16, ground := Ground.data }, { on := 8, ground := Ground.guard }], guard := some (8, true) }, { dst := some 117, op := Op.move (Operand.tmp 116), type := 4, pos := ps, after := #[{ on := 17, ground := Ground.data }, { on := 8, ground := Ground.chain }, { on := 8, ground := Ground.guard }], guard := some (8, true) }, { dst := some 118, op := Op.move (Operand.tmp 6), type := 26, pos := ps, after := #[{ on := 18, ground := Ground.guard }], guard := some (18, false) }, { dst := some 119, op := Op.move (Operand.tmp 13), type := 3, pos := ps, after := #[{ on := 18, ground := Ground.guard }], guard := some (18, false) }, { dst := some 120, op := Op.indexAddr 26 (Operand.tmp 118) (Operand.tmp 119), type := 0, pos := ps, after := #[{ on := 19, ground := Ground.data }, { on := 20, ground := Ground.data }, { on := 18, ground := Ground.guard }], guard := some (18, false) }, { dst := some 121, op := Op.load 3 (Operand.tmp 120), type := 3, pos := ps, after := #[{ on := 21, ground := Ground.data }, { on := 18, ground := Ground.guard }], guard := some (18, false) }, { dst := some 122, op := Op.move (Operand.tmp 11), type := 26, pos := ps, after := #[{ on := 18, ground := Ground.guard }], guard := some (18, false) }, { dst := some 123, op := Op.move (Operand.tmp 13), type := 3, pos := ps, after := #[{ on := 18, ground := Ground.guard }], guard := some (18, false) }, { dst := some 124, op := Op.indexAddr 26 (Operand.tmp 122) (Operand.tmp 123), type := 0, pos := ps, after := #[{ on := 23, ground := Ground.data }, { on := 24, ground := Ground.data }, { on := 18, ground := Ground.guard }], guard := some (18, false) }, { dst := some 125, op := Op.load 3 (Operand.tmp 124), type := 3, pos := ps, after := #[{ on := 25, ground := Ground.data }, { on := 18, ground := Ground.guard }], guard := some (18, false) }, { dst := some 126, op := Op.binOp BinOp.gtr 3 (Operand.tmp 121) (Operand.tmp 125) 3, type := 4, pos := ps, after := #[{ on := 22, ground := Ground.data }, { on := 26, ground := Ground.data }, { on := 18, ground := Ground.guard }], guard := some (18, false) }, { dst := some 127, op := Op.pick (Operand.tmp 117) (Operand.const (Value.bool true)) (Operand.tmp 126), type := 4, pos := ps, after := #[{ on := 18, ground := Ground.data }, { on := 27, ground := Ground.data }, { on := 8, ground := Ground.guard }], guard := some (8, true) }, { dst := some 128, op := Op.pick (Operand.tmp 107) (Operand.tmp 127) (Operand.const (Value.bool false)), type := 4, pos := ps, after := #[{ on := 8, ground := Ground.data }, { on := 28, ground := Ground.data }, { on := 5, ground := Ground.guard }], guard := some (5, false) }, { dst := some 129, op := Op.pick (Operand.tmp 104) (Operand.const (Value.bool true)) (Operand.tmp 128), type := 4, pos := ps, after := #[{ on := 5, ground := Ground.data }, { on := 29, ground := Ground.data }], guard := none }]

set_option maxRecDepth 100000 in
set_option maxHeartbeats 2000000 in
theorem fit_r14 (Q : Exit → Act → World → Prop) (hQ : ∀ c x (n : Nat) v w, Q (.panic c) (x.put (some n) v) w → Q (.panic c) x w) (id : Nat) (ps : String) (bL n k : Nat) (x : Int) {v0 v1 v2 v3 v4 v5 v8 v9 v10 v11 v12 v14 v15 v16 v17 v18 v19 v20 v21 v22 v23 v24 v25 v26 v27 v28 v29 v30 v31 v32 v33 v34 v35 v36 v37 v38 v39 v40 v41 v42 v43 v44 v45 v46 v47 v48 v49 v50 v51 v52 v53 v54 v55 v56 v57 v58 v59 v60 v61 v62 v63 v64 v65 v66 v67 v68 v69 v70 v71 v72 v73 v74 v75 v76 v77 v78 v79 v80 v81 v82 v83 v84 v85 v86 v87 v88 v89 v90 v91 v92 v93 v94 v95 v96 v97 v98 v99 v100 v101 v102 v103 v104 v105 v106 v107 v108 v109 v110 v111 v112 v113 v114 v115 v116 v117 v118 v119 v120 v121 v122 v123 v124 v125 v126 v127 v128 v129 v130 : Value} (W : World)
    (hkn : k < n) (hx : ¬ x < 0) (hd : W.cell? ⟨bL, k, none⟩ = some (.int .i64 x))
    (hK : Q .normal { tmps := #[v0, v1, v2, v3, v4, v5, .slice (some ⟨bL, 0, none⟩) n n, .bool true, v8, v9, v10, v11, v12, .int .i64 (k : Int), v14, v15, v16, v17, v18, v19, v20, v21, v22, v23, v24, v25, v26, v27, v28, v29, v30, v31, v32, v33, v34, v35, v36, v37, v38, v39, v40, v41, v42, v43, v44, v45, v46, v47, v48, v49, v50, v51, v52, v53, v54, v55, v56, v57, v58, v59, v60, v61, v62, v63, v64, v65, v66, v67, v68, v69, v70, v71, v72, v73, v74, v75, v76, v77, v78, v79, v80, v81, v82, v83, v84, v85, v86, v87, v88, v89, v90, v91, v92, v93, v94, v95, v96, v97, v98, .slice (some ⟨bL, 0, none⟩) n n, .int .i64 (k : Int), .pointer (some ⟨bL, k, none⟩), .int .i64 x, .bool false, .bool false, .bool true, .bool false, .bool false, undef, undef, undef, undef, undef, undef, undef, undef, undef, undef, undef, undef, undef, undef, undef, undef, undef, undef, undef, undef, .bool false, .bool false, v130], defers := [] } W.drew) :
    (Code.region id (opf14 ps) true).wp Try.prog Q { tmps := #[v0, v1, v2, v3, v4, v5, .slice (some ⟨bL, 0, none⟩) n n, .bool true, v8, v9, v10, v11, v12, .int .i64 (k : Int), v14, v15, v16, v17, v18, v19, v20, v21, v22, v23, v24, v25, v26, v27, v28, v29, v30, v31, v32, v33, v34, v35, v36, v37, v38, v39, v40, v41, v42, v43, v44, v45, v46, v47, v48, v49, v50, v51, v52, v53, v54, v55, v56, v57, v58, v59, v60, v61, v62, v63, v64, v65, v66, v67, v68, v69, v70, v71, v72, v73, v74, v75, v76, v77, v78, v79, v80, v81, v82, v83, v84, v85, v86, v87, v88, v89, v90, v91, v92, v93, v94, v95, v96, v97, v98, v99, v100, v101, v102, v103, v104, v105, v106, v107, v108, v109, v110, v111, v112, v113, v114, v115, v116, v117, v118, v119, v120, v121, v122, v123, v124, v125, v126, v127, v128, v129, v130], defers := [] } W := by
  refine wp_region_held (S := fun w => w = W.drew) (by kernel_rfl) ?_
  change wpAnyH _ _ _ _ _ 31 _ _ (World.drew W)
  have hd' : W.drew.cell? ⟨bL, k, none⟩ = some (.int .i64 x) := hd
  generalize W.drew = V at *
  unfold opf14
  refine wpAnyH_take (i := 0) (v := .slice (some ⟨bL, 0, none⟩) n n) rfl (by kernel_rfl) (by kernel_rfl) (by kernel_rfl) (fun c x w => hQ c x _ _ w) (Or.inl ⟨by rfl, ?y0⟩) rfl ?_
  case y0 => (intro w' hw'; subst hw'; go_simp)
  go_simp
  refine wpAnyH_take (i := 1) (v := .int .i64 (k : Int)) rfl (by kernel_rfl) (by kernel_rfl) (by kernel_rfl) (fun c x w => hQ c x _ _ w) (Or.inl ⟨by rfl, ?y1⟩) rfl ?_
  case y1 => (intro w' hw'; subst hw'; go_simp)
  go_simp
  refine wpAnyH_take (i := 2) (v := .pointer (some ⟨bL, k, none⟩)) rfl (by kernel_rfl) (by kernel_rfl) (by kernel_rfl) (fun c x w => hQ c x _ _ w) (Or.inl ⟨by rfl, ?y2⟩) rfl ?_
  case y2 => (intro w' hw'; subst hw'; go_simp)
  go_simp
  refine wpAnyH_take (i := 3) (v := .int .i64 x) rfl (by kernel_rfl) (by kernel_rfl) (by kernel_rfl) (fun c x w => hQ c x _ _ w) (Or.inl ⟨by rfl, ?y3⟩) rfl ?_
  case y3 => (intro w' hw'; subst hw'; go_simp)
  go_simp
  refine wpAnyH_take (i := 4) (v := .bool false) rfl (by kernel_rfl) (by kernel_rfl) (by kernel_rfl) (fun c x w => hQ c x _ _ w) (Or.inl ⟨by rfl, ?y4⟩) rfl ?_
  case y4 => (intro w' hw'; subst hw'; go_simp)
  go_simp
  refine wpAnyH_take (i := 5) (v := .bool false) rfl (by kernel_rfl) (by kernel_rfl) (by kernel_rfl) (fun c x w => hQ c x _ _ w) (Or.inl ⟨by rfl, ?y5⟩) rfl ?_
  case y5 => (intro w' hw'; subst hw'; go_simp)
  go_simp
  refine wpAnyH_take (i := 6) (v := .bool true) rfl (by kernel_rfl) (by kernel_rfl) (by kernel_rfl) (fun c x w => hQ c x _ _ w) (Or.inl ⟨by rfl, ?y6⟩) rfl ?_
  case y6 => (intro w' hw'; subst hw'; go_simp)
  go_simp
  refine wpAnyH_take (i := 7) (v := .bool false) rfl (by kernel_rfl) (by kernel_rfl) (by kernel_rfl) (fun c x w => hQ c x _ _ w) (Or.inl ⟨by rfl, ?y7⟩) rfl ?_
  case y7 => (intro w' hw'; subst hw'; go_simp)
  go_simp
  refine wpAnyH_take (i := 8) (v := .bool false) rfl (by kernel_rfl) (by kernel_rfl) (by kernel_rfl) (fun c x w => hQ c x _ _ w) (Or.inl ⟨by rfl, ?y8⟩) rfl ?_
  case y8 => (intro w' hw'; subst hw'; go_simp)
  go_simp
  refine wpAnyH_take (i := 9) (v := undef) rfl (by kernel_rfl) (by kernel_rfl) (by kernel_rfl) (fun c x w => hQ c x _ _ w) (Or.inr ⟨by rfl, rfl⟩) rfl ?_
  go_simp
  refine wpAnyH_take (i := 10) (v := undef) rfl (by kernel_rfl) (by kernel_rfl) (by kernel_rfl) (fun c x w => hQ c x _ _ w) (Or.inr ⟨by rfl, rfl⟩) rfl ?_
  go_simp
  refine wpAnyH_take (i := 11) (v := undef) rfl (by kernel_rfl) (by kernel_rfl) (by kernel_rfl) (fun c x w => hQ c x _ _ w) (Or.inr ⟨by rfl, rfl⟩) rfl ?_
  go_simp
  refine wpAnyH_take (i := 12) (v := undef) rfl (by kernel_rfl) (by kernel_rfl) (by kernel_rfl) (fun c x w => hQ c x _ _ w) (Or.inr ⟨by rfl, rfl⟩) rfl ?_
  go_simp
  refine wpAnyH_take (i := 13) (v := undef) rfl (by kernel_rfl) (by kernel_rfl) (by kernel_rfl) (fun c x w => hQ c x _ _ w) (Or.inr ⟨by rfl, rfl⟩) rfl ?_
  go_simp
  refine wpAnyH_take (i := 14) (v := undef) rfl (by kernel_rfl) (by kernel_rfl) (by kernel_rfl) (fun c x w => hQ c x _ _ w) (Or.inr ⟨by rfl, rfl⟩) rfl ?_
  go_simp
  refine wpAnyH_take (i := 15) (v := undef) rfl (by kernel_rfl) (by kernel_rfl) (by kernel_rfl) (fun c x w => hQ c x _ _ w) (Or.inr ⟨by rfl, rfl⟩) rfl ?_
  go_simp
  refine wpAnyH_take (i := 16) (v := undef) rfl (by kernel_rfl) (by kernel_rfl) (by kernel_rfl) (fun c x w => hQ c x _ _ w) (Or.inr ⟨by rfl, rfl⟩) rfl ?_
  go_simp
  refine wpAnyH_take (i := 17) (v := undef) rfl (by kernel_rfl) (by kernel_rfl) (by kernel_rfl) (fun c x w => hQ c x _ _ w) (Or.inr ⟨by rfl, rfl⟩) rfl ?_
  go_simp
  refine wpAnyH_take (i := 18) (v := undef) rfl (by kernel_rfl) (by kernel_rfl) (by kernel_rfl) (fun c x w => hQ c x _ _ w) (Or.inr ⟨by rfl, rfl⟩) rfl ?_
  go_simp
  refine wpAnyH_take (i := 19) (v := undef) rfl (by kernel_rfl) (by kernel_rfl) (by kernel_rfl) (fun c x w => hQ c x _ _ w) (Or.inr ⟨by rfl, rfl⟩) rfl ?_
  go_simp
  refine wpAnyH_take (i := 20) (v := undef) rfl (by kernel_rfl) (by kernel_rfl) (by kernel_rfl) (fun c x w => hQ c x _ _ w) (Or.inr ⟨by rfl, rfl⟩) rfl ?_
  go_simp
  refine wpAnyH_take (i := 21) (v := undef) rfl (by kernel_rfl) (by kernel_rfl) (by kernel_rfl) (fun c x w => hQ c x _ _ w) (Or.inr ⟨by rfl, rfl⟩) rfl ?_
  go_simp
  refine wpAnyH_take (i := 22) (v := undef) rfl (by kernel_rfl) (by kernel_rfl) (by kernel_rfl) (fun c x w => hQ c x _ _ w) (Or.inr ⟨by rfl, rfl⟩) rfl ?_
  go_simp
  refine wpAnyH_take (i := 23) (v := undef) rfl (by kernel_rfl) (by kernel_rfl) (by kernel_rfl) (fun c x w => hQ c x _ _ w) (Or.inr ⟨by rfl, rfl⟩) rfl ?_
  go_simp
  refine wpAnyH_take (i := 24) (v := undef) rfl (by kernel_rfl) (by kernel_rfl) (by kernel_rfl) (fun c x w => hQ c x _ _ w) (Or.inr ⟨by rfl, rfl⟩) rfl ?_
  go_simp
  refine wpAnyH_take (i := 25) (v := undef) rfl (by kernel_rfl) (by kernel_rfl) (by kernel_rfl) (fun c x w => hQ c x _ _ w) (Or.inr ⟨by rfl, rfl⟩) rfl ?_
  go_simp
  refine wpAnyH_take (i := 26) (v := undef) rfl (by kernel_rfl) (by kernel_rfl) (by kernel_rfl) (fun c x w => hQ c x _ _ w) (Or.inr ⟨by rfl, rfl⟩) rfl ?_
  go_simp
  refine wpAnyH_take (i := 27) (v := undef) rfl (by kernel_rfl) (by kernel_rfl) (by kernel_rfl) (fun c x w => hQ c x _ _ w) (Or.inr ⟨by rfl, rfl⟩) rfl ?_
  go_simp
  refine wpAnyH_take (i := 28) (v := undef) rfl (by kernel_rfl) (by kernel_rfl) (by kernel_rfl) (fun c x w => hQ c x _ _ w) (Or.inr ⟨by rfl, rfl⟩) rfl ?_
  go_simp
  refine wpAnyH_take (i := 29) (v := .bool false) rfl (by kernel_rfl) (by kernel_rfl) (by kernel_rfl) (fun c x w => hQ c x _ _ w) (Or.inl ⟨by rfl, ?y29⟩) rfl ?_
  case y29 => (intro w' hw'; subst hw'; go_simp)
  go_simp
  refine wpAnyH_take (i := 30) (v := .bool false) rfl (by kernel_rfl) (by kernel_rfl) (by kernel_rfl) (fun c x w => hQ c x _ _ w) (Or.inl ⟨by rfl, ?y30⟩) rfl ?_
  case y30 => (intro w' hw'; subst hw'; go_simp)
  go_simp
  exact wpAnyH_done (by kernel_rfl) hK _
end Go.Proofs.Ytkhnfmdhdfpdhaa
