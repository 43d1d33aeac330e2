/-
  What is proved here: the document's Props: whether the properties of a paragraph may be.
-/
import Derived.Test.YtkhnfmdhdfpdhaaE19
namespace Go.Proofs.Ytkhnfmdhdfpdhaa
open Go.RowKit Go.Shelf

def fr45 (v0 v1 v2 v3 v4 v5 v6 v7 v8 v9 v10 v11 v12 v13 v14 v15 v16 v17 v18 v19 v20 v21 v22 v23 v24 v25 v26 v27 v28 v29 v30 v31 v32 v33 v34 v35 v36 v37 v38 v39 v40 v41 v42 v43 v44 v45 v46 v47 v48 v49 v50 v51 v52 v53 v54 v55 v56 v57 v58 v59 v60 v61 v62 v63 v64 v65 v66 v67 v68 v69 v70 v71 v72 v73 v74 v75 v76 v77 v78 v79 v80 v81 v82 v83 v84 v85 v86 v87 v88 v89 v90 v91 : Value) : Act := { tmps := #[v0, v1, v2, v3, v4, v5, v6, v7, v8, v9, v10, v11, v12, v13, v14, v15, v16, v17, v18, v19, v20, v21, v22, v23, v24, v25, v26, v27, v28, v29, v30, v31, v32, v33, v34, v35, v36, v37, v38, v39, v40, v41, v42, v43, v44, v45, v46, v47, v48, v49, v50, v51, v52, v53, v54, v55, v56, v57, v58, v59, v60, v61, v62, v63, v64, v65, v66, v67, v68, v69, v70, v71, v72, v73, v74, v75, v76, v77, v78, v79, v80, v81, v82, v83, v84, v85, v86, v87, v88, v89, v90, v91], defers := [] }
def ops45_1 (ps : String) : Array Oper := #[{ dst := some 6, op := Op.fieldAddr 37 (Operand.tmp 1) 0, type := 0, pos := ps, after := #[], guard := none }, { dst := some 7, op := Op.load 3 (Operand.tmp 6), type := 3, pos := ps, after := #[{ on := 0, ground := Ground.data }], guard := none }, { dst := some 8, op := Op.call { callee := Callee.value (Operand.func 96), args := #[Operand.tmp 7, Operand.const (Value.int IntKind.i64 1), Operand.const (Value.int IntKind.i64 64)], argTypes := #[3, 3, 3] }, type := 4, pos := ps, after := #[{ on := 1, ground := Ground.data }], guard := none }, { dst := some 9, op := Op.move (Operand.tmp 8), type := 4, pos := ps, after := #[{ on := 2, ground := Ground.data }, { on := 2, ground := Ground.chain }], guard := none }, { dst := some 10, op := Op.fieldAddr 37 (Operand.tmp 1) 1, type := 0, pos := ps, after := #[{ on := 3, ground := Ground.guard }], guard := some (3, true) }, { dst := some 11, op := Op.load 3 (Operand.tmp 10), type := 3, pos := ps, after := #[{ on := 4, ground := Ground.data }, { on := 3, ground := Ground.guard }], guard := some (3, true) }, { dst := some 12, op := Op.call { callee := Callee.value (Operand.func 96), args := #[Operand.tmp 11, Operand.const (Value.int IntKind.i64 1), Operand.const (Value.int IntKind.i64 255)], argTypes := #[3, 3, 3] }, type := 4, pos := ps, after := #[{ on := 5, ground := Ground.data }, { on := 3, ground := Ground.chain }, { on := 3, ground := Ground.guard }], guard := some (3, true) }, { dst := some 13, op := Op.pick (Operand.tmp 9) (Operand.tmp 12) (Operand.const (Value.bool false)), type := 4, pos := ps, after := #[{ on := 3, ground := Ground.data }, { on := 6, ground := Ground.data }], guard := none }, { dst := some 14, op := Op.move (Operand.tmp 13), type := 4, pos := ps, after := #[{ on := 7, ground := Ground.data }, { on := 6, ground := Ground.chain }], guard := none }, { dst := some 15, op := Op.fieldAddr 37 (Operand.tmp 1) 2, type := 0, pos := ps, after := #[{ on := 8, ground := Ground.guard }], guard := some (8, true) }, { dst := some 16, op := Op.load 3 (Operand.tmp 15), type := 3, pos := ps, after := #[{ on := 9, ground := Ground.data }, { on := 8, ground := Ground.guard }], guard := some (8, true) }, { dst := some 17, op := Op.call { callee := Callee.value (Operand.func 96), args := #[Operand.tmp 16, Operand.const (Value.int IntKind.i64 0), Operand.const (Value.int IntKind.i64 3)], argTypes := #[3, 3, 3] }, type := 4, pos := ps, after := #[{ on := 10, ground := Ground.data }, { on := 8, ground := Ground.chain }, { on := 8, ground := Ground.guard }], guard := some (8, true) }, { dst := some 18, op := Op.pick (Operand.tmp 14) (Operand.tmp 17) (Operand.const (Value.bool false)), type := 4, pos := ps, after := #[{ on := 8, ground := Ground.data }, { on := 11, ground := Ground.data }], guard := none }, { dst := some 3, op := Op.assign (Operand.tmp 18), type := 4, pos := ps, after := #[{ on := 12, ground := Ground.data }, { on := 11, ground := Ground.chain }, { on := 0, ground := Ground.phase }, { on := 1, ground := Ground.phase }, { on := 2, ground := Ground.phase }, { on := 3, ground := Ground.phase }, { on := 4, ground := Ground.phase }, { on := 5, ground := Ground.phase }, { on := 6, ground := Ground.phase }, { on := 7, ground := Ground.phase }, { on := 8, ground := Ground.phase }, { on := 9, ground := Ground.phase }, { on := 10, ground := Ground.phase }, { on := 11, ground := Ground.phase }, { on := 12, ground := Ground.phase }], guard := none }]
set_option maxRecDepth 100000 in
set_option maxHeartbeats 2000000 in
theorem props_r1 (Q : Exit → Act → World → Prop) (id : Nat) (ps : String) {v0 v2 v3 v4 v5 v6 v7 v8 v9 v10 v11 v12 v13 v14 v15 v16 v17 v18 v19 v20 v21 v22 v23 v24 v25 v26 v27 v28 v29 v30 v31 v32 v33 v34 v35 v36 v37 v38 v39 v40 v41 v42 v43 v44 v45 v46 v47 v48 v49 v50 v51 v52 v53 v54 v55 v56 v57 v58 v59 v60 v61 v62 v63 v64 v65 v66 v67 v68 v69 v70 v71 v72 v73 v74 v75 v76 v77 v78 v79 v80 v81 v82 v83 v84 v85 v86 v87 v88 v89 v90 v91 : Value} (g : Nat) (x0 x1 x2 : Int) (b0 : Bool) (b1 : Bool) (b2 : Bool)  (w : World)
    (h0 : ∀ w : World, Calls Try.prog 96 #[.int .i64 x0, .int .i64 1, .int .i64 64] w fun e w' => e = .returned (.bool b0) ∧ w' = w)
    (h1 : ∀ w : World, Calls Try.prog 96 #[.int .i64 x1, .int .i64 1, .int .i64 255] w fun e w' => e = .returned (.bool b1) ∧ w' = w)
    (h2 : ∀ w : World, Calls Try.prog 96 #[.int .i64 x2, .int .i64 0, .int .i64 3] w fun e w' => e = .returned (.bool b2) ∧ w' = w)
    (m0 : w.cell? ⟨g, 0, none⟩ = some (.int .i64 x0))
    (m1 : w.cell? ⟨g, 1, none⟩ = some (.int .i64 x1))
    (m2 : w.cell? ⟨g, 2, none⟩ = some (.int .i64 x2))
    (hq : Hid (∀ r, r = (b0 && b1 && b2) → ∀ u6 u7 u8 u9 u10 u11 u12 u13 u14 u15 u16 u17 u18, Q .normal (fr45 v0 (.pointer (some ⟨g, 0, none⟩)) v2 (.bool r) v4 v5 u6 u7 u8 u9 u10 u11 u12 u13 u14 u15 u16 u17 u18 v19 v20 v21 v22 v23 v24 v25 v26 v27 v28 v29 v30 v31 v32 v33 v34 v35 v36 v37 v38 v39 v40 v41 v42 v43 v44 v45 v46 v47 v48 v49 v50 v51 v52 v53 v54 v55 v56 v57 v58 v59 v60 v61 v62 v63 v64 v65 v66 v67 v68 v69 v70 v71 v72 v73 v74 v75 v76 v77 v78 v79 v80 v81 v82 v83 v84 v85 v86 v87 v88 v89 v90 v91) w)) :
    (Code.region id (ops45_1 ps) false).wp Try.prog Q (fr45 v0 (.pointer (some ⟨g, 0, none⟩)) v2 v3 v4 v5 v6 v7 v8 v9 v10 v11 v12 v13 v14 v15 v16 v17 v18 v19 v20 v21 v22 v23 v24 v25 v26 v27 v28 v29 v30 v31 v32 v33 v34 v35 v36 v37 v38 v39 v40 v41 v42 v43 v44 v45 v46 v47 v48 v49 v50 v51 v52 v53 v54 v55 v56 v57 v58 v59 v60 v61 v62 v63 v64 v65 v66 v67 v68 v69 v70 v71 v72 v73 v74 v75 v76 v77 v78 v79 v80 v81 v82 v83 v84 v85 v86 v87 v88 v89 v90 v91) w := by
  unfold ops45_1 fr45
  go_wp2_with fail
  refine (h0 _).mono ?_
  rintro e w' ⟨rfl, hww⟩
  subst w'
  cases b0
  · go_wp2_with fail
    exact hq.out false (by simp) _ _ _ _ _ _ _ _ _ _ _ _ _
  · go_wp2_with fail
    refine (h1 _).mono ?_
    rintro e w' ⟨rfl, hww⟩
    subst w'
    cases b1
    · go_wp2_with fail
      exact hq.out false (by simp) _ _ _ _ _ _ _ _ _ _ _ _ _
    · go_wp2_with fail
      refine (h2 _).mono ?_
      rintro e w' ⟨rfl, hww⟩
      subst w'
      cases b2
      · go_wp2_with fail
        exact hq.out false (by simp) _ _ _ _ _ _ _ _ _ _ _ _ _
      · go_wp2_with fail
        exact hq.out true (by simp) _ _ _ _ _ _ _ _ _ _ _ _ _

def ops45_2 (ps : String) : Array Oper := #[{ dst := some 19, op := Op.fieldAddr 37 (Operand.tmp 1) 3, type := 0, pos := ps, after := #[], guard := none }, { dst := some 20, op := Op.load 3 (Operand.tmp 19), type := 3, pos := ps, after := #[{ on := 0, ground := Ground.data }], guard := none }, { dst := some 21, op := Op.call { callee := Callee.value (Operand.func 96), args := #[Operand.tmp 20, Operand.const (Value.int IntKind.i64 0), Operand.const (Value.int IntKind.i64 255)], argTypes := #[3, 3, 3] }, type := 4, pos := ps, after := #[{ on := 1, ground := Ground.data }], guard := none }, { dst := some 22, op := Op.move (Operand.tmp 21), type := 4, pos := ps, after := #[{ on := 2, ground := Ground.data }, { on := 2, ground := Ground.chain }], guard := none }, { dst := some 23, op := Op.fieldAddr 37 (Operand.tmp 1) 4, type := 0, pos := ps, after := #[{ on := 3, ground := Ground.guard }], guard := some (3, true) }, { dst := some 24, op := Op.load 3 (Operand.tmp 23), type := 3, pos := ps, after := #[{ on := 4, ground := Ground.data }, { on := 3, ground := Ground.guard }], guard := some (3, true) }, { dst := some 25, op := Op.call { callee := Callee.value (Operand.func 96), args := #[Operand.tmp 24, Operand.const (Value.int IntKind.i64 0), Operand.const (Value.int IntKind.i64 255)], argTypes := #[3, 3, 3] }, type := 4, pos := ps, after := #[{ on := 5, ground := Ground.data }, { on := 3, ground := Ground.chain }, { on := 3, ground := Ground.guard }], guard := some (3, true) }, { dst := some 26, op := Op.pick (Operand.tmp 22) (Operand.tmp 25) (Operand.const (Value.bool false)), type := 4, pos := ps, after := #[{ on := 3, ground := Ground.data }, { on := 6, ground := Ground.data }], guard := none }, { dst := some 27, op := Op.move (Operand.tmp 26), type := 4, pos := ps, after := #[{ on := 7, ground := Ground.data }, { on := 6, ground := Ground.chain }], guard := none }, { dst := some 28, op := Op.fieldAddr 37 (Operand.tmp 1) 5, type := 0, pos := ps, after := #[{ on := 8, ground := Ground.guard }], guard := some (8, true) }, { dst := some 29, op := Op.load 3 (Operand.tmp 28), type := 3, pos := ps, after := #[{ on := 9, ground := Ground.data }, { on := 8, ground := Ground.guard }], guard := some (8, true) }, { dst := some 30, op := Op.call { callee := Callee.value (Operand.func 96), args := #[Operand.tmp 29, Operand.const (Value.int IntKind.i64 0), Operand.const (Value.int IntKind.i64 255)], argTypes := #[3, 3, 3] }, type := 4, pos := ps, after := #[{ on := 10, ground := Ground.data }, { on := 8, ground := Ground.chain }, { on := 8, ground := Ground.guard }], guard := some (8, true) }, { dst := some 31, op := Op.pick (Operand.tmp 27) (Operand.tmp 30) (Operand.const (Value.bool false)), type := 4, pos := ps, after := #[{ on := 8, ground := Ground.data }, { on := 11, ground := Ground.data }], guard := none }, { dst := some 32, op := Op.move (Operand.tmp 31), type := 4, pos := ps, after := #[{ on := 12, ground := Ground.data }, { on := 11, ground := Ground.chain }], guard := none }, { dst := some 33, op := Op.fieldAddr 37 (Operand.tmp 1) 6, type := 0, pos := ps, after := #[{ on := 13, ground := Ground.guard }], guard := some (13, true) }, { dst := some 34, op := Op.load 3 (Operand.tmp 33), type := 3, pos := ps, after := #[{ on := 14, ground := Ground.data }, { on := 13, ground := Ground.guard }], guard := some (13, true) }, { dst := some 35, op := Op.call { callee := Callee.value (Operand.func 96), args := #[Operand.tmp 34, Operand.const (Value.int IntKind.i64 0), Operand.const (Value.int IntKind.i64 255)], argTypes := #[3, 3, 3] }, type := 4, pos := ps, after := #[{ on := 15, ground := Ground.data }, { on := 13, ground := Ground.chain }, { on := 13, ground := Ground.guard }], guard := some (13, true) }, { dst := some 36, op := Op.pick (Operand.tmp 32) (Operand.tmp 35) (Operand.const (Value.bool false)), type := 4, pos := ps, after := #[{ on := 13, ground := Ground.data }, { on := 16, ground := Ground.data }], guard := none }, { dst := some 37, op := Op.move (Operand.tmp 36), type := 4, pos := ps, after := #[{ on := 17, ground := Ground.data }, { on := 16, ground := Ground.chain }], guard := none }, { dst := some 38, op := Op.fieldAddr 37 (Operand.tmp 1) 7, type := 0, pos := ps, after := #[{ on := 18, ground := Ground.guard }], guard := some (18, true) }, { dst := some 39, op := Op.load 3 (Operand.tmp 38), type := 3, pos := ps, after := #[{ on := 19, ground := Ground.data }, { on := 18, ground := Ground.guard }], guard := some (18, true) }, { dst := some 40, op := Op.call { callee := Callee.value (Operand.func 96), args := #[Operand.tmp 39, Operand.const (Value.int IntKind.i64 0), Operand.const (Value.int IntKind.i64 255)], argTypes := #[3, 3, 3] }, type := 4, pos := ps, after := #[{ on := 20, ground := Ground.data }, { on := 18, ground := Ground.chain }, { on := 18, ground := Ground.guard }], guard := some (18, true) }, { dst := some 41, op := Op.pick (Operand.tmp 37) (Operand.tmp 40) (Operand.const (Value.bool false)), type := 4, pos := ps, after := #[{ on := 18, ground := Ground.data }, { on := 21, ground := Ground.data }], guard := none }, { dst := some 4, op := Op.assign (Operand.tmp 41), type := 4, pos := ps, after := #[{ on := 22, ground := Ground.data }, { on := 21, ground := Ground.chain }, { on := 0, ground := Ground.phase }, { on := 1, ground := Ground.phase }, { on := 2, ground := Ground.phase }, { on := 3, ground := Ground.phase }, { on := 4, ground := Ground.phase }, { on := 5, ground := Ground.phase }, { on := 6, ground := Ground.phase }, { on := 7, ground := Ground.phase }, { on := 8, ground := Ground.phase }, { on := 9, ground := Ground.phase }, { on := 10, ground := Ground.phase }, { on := 11, ground := Ground.phase }, { on := 12, ground := Ground.phase }, { on := 13, ground := Ground.phase }, { on := 14, ground := Ground.phase }, { on := 15, ground := Ground.phase }, { on := 16, ground := Ground.phase }, { on := 17, ground := Ground.phase }, { on := 18, ground := Ground.phase }, { on := 19, ground := Ground.phase }, { on := 20, ground := Ground.phase }, { on := 21, ground := Ground.phase }, { on := 22, ground := Ground.phase }], guard := none }]
set_option maxRecDepth 100000 in
set_option maxHeartbeats 2000000 in
theorem props_r2 (Q : Exit → Act → World → Prop) (id : Nat) (ps : String) {v0 v2 v3 v4 v5 v6 v7 v8 v9 v10 v11 v12 v13 v14 v15 v16 v17 v18 v19 v20 v21 v22 v23 v24 v25 v26 v27 v28 v29 v30 v31 v32 v33 v34 v35 v36 v37 v38 v39 v40 v41 v42 v43 v44 v45 v46 v47 v48 v49 v50 v51 v52 v53 v54 v55 v56 v57 v58 v59 v60 v61 v62 v63 v64 v65 v66 v67 v68 v69 v70 v71 v72 v73 v74 v75 v76 v77 v78 v79 v80 v81 v82 v83 v84 v85 v86 v87 v88 v89 v90 v91 : Value} (g : Nat) (x3 x4 x5 x6 x7 : Int) (b3 : Bool) (b4 : Bool) (b5 : Bool) (b6 : Bool) (b7 : Bool)  (w : World)
    (h3 : ∀ w : World, Calls Try.prog 96 #[.int .i64 x3, .int .i64 0, .int .i64 255] w fun e w' => e = .returned (.bool b3) ∧ w' = w)
    (h4 : ∀ w : World, Calls Try.prog 96 #[.int .i64 x4, .int .i64 0, .int .i64 255] w fun e w' => e = .returned (.bool b4) ∧ w' = w)
    (h5 : ∀ w : World, Calls Try.prog 96 #[.int .i64 x5, .int .i64 0, .int .i64 255] w fun e w' => e = .returned (.bool b5) ∧ w' = w)
    (h6 : ∀ w : World, Calls Try.prog 96 #[.int .i64 x6, .int .i64 0, .int .i64 255] w fun e w' => e = .returned (.bool b6) ∧ w' = w)
    (h7 : ∀ w : World, Calls Try.prog 96 #[.int .i64 x7, .int .i64 0, .int .i64 255] w fun e w' => e = .returned (.bool b7) ∧ w' = w)
    (m3 : w.cell? ⟨g, 3, none⟩ = some (.int .i64 x3))
    (m4 : w.cell? ⟨g, 4, none⟩ = some (.int .i64 x4))
    (m5 : w.cell? ⟨g, 5, none⟩ = some (.int .i64 x5))
    (m6 : w.cell? ⟨g, 6, none⟩ = some (.int .i64 x6))
    (m7 : w.cell? ⟨g, 7, none⟩ = some (.int .i64 x7))
    (hq : Hid (∀ r, r = (b3 && b4 && b5 && b6 && b7) → ∀ u19 u20 u21 u22 u23 u24 u25 u26 u27 u28 u29 u30 u31 u32 u33 u34 u35 u36 u37 u38 u39 u40 u41, Q .normal (fr45 v0 (.pointer (some ⟨g, 0, none⟩)) v2 v3 (.bool r) v5 v6 v7 v8 v9 v10 v11 v12 v13 v14 v15 v16 v17 v18 u19 u20 u21 u22 u23 u24 u25 u26 u27 u28 u29 u30 u31 u32 u33 u34 u35 u36 u37 u38 u39 u40 u41 v42 v43 v44 v45 v46 v47 v48 v49 v50 v51 v52 v53 v54 v55 v56 v57 v58 v59 v60 v61 v62 v63 v64 v65 v66 v67 v68 v69 v70 v71 v72 v73 v74 v75 v76 v77 v78 v79 v80 v81 v82 v83 v84 v85 v86 v87 v88 v89 v90 v91) w)) :
    (Code.region id (ops45_2 ps) false).wp Try.prog Q (fr45 v0 (.pointer (some ⟨g, 0, none⟩)) v2 v3 v4 v5 v6 v7 v8 v9 v10 v11 v12 v13 v14 v15 v16 v17 v18 v19 v20 v21 v22 v23 v24 v25 v26 v27 v28 v29 v30 v31 v32 v33 v34 v35 v36 v37 v38 v39 v40 v41 v42 v43 v44 v45 v46 v47 v48 v49 v50 v51 v52 v53 v54 v55 v56 v57 v58 v59 v60 v61 v62 v63 v64 v65 v66 v67 v68 v69 v70 v71 v72 v73 v74 v75 v76 v77 v78 v79 v80 v81 v82 v83 v84 v85 v86 v87 v88 v89 v90 v91) w := by
  unfold ops45_2 fr45
  go_wp2_with fail
  refine (h3 _).mono ?_
  rintro e w' ⟨rfl, hww⟩
  subst w'
  cases b3
  · go_wp2_with fail
    exact hq.out false (by simp) _ _ _ _ _ _ _ _ _ _ _ _ _ _ _ _ _ _ _ _ _ _ _
  · go_wp2_with fail
    refine (h4 _).mono ?_
    rintro e w' ⟨rfl, hww⟩
    subst w'
    cases b4
    · go_wp2_with fail
      exact hq.out false (by simp) _ _ _ _ _ _ _ _ _ _ _ _ _ _ _ _ _ _ _ _ _ _ _
    · go_wp2_with fail
      refine (h5 _).mono ?_
      rintro e w' ⟨rfl, hww⟩
      subst w'
      cases b5
      · go_wp2_with fail
        exact hq.out false (by simp) _ _ _ _ _ _ _ _ _ _ _ _ _ _ _ _ _ _ _ _ _ _ _
      · go_wp2_with fail
        refine (h6 _).mono ?_
        rintro e w' ⟨rfl, hww⟩
        subst w'
        cases b6
        · go_wp2_with fail
          exact hq.out false (by simp) _ _ _ _ _ _ _ _ _ _ _ _ _ _ _ _ _ _ _ _ _ _ _
        · go_wp2_with fail
          refine (h7 _).mono ?_
          rintro e w' ⟨rfl, hww⟩
          subst w'
          cases b7
          · go_wp2_with fail
            exact hq.out false (by simp) _ _ _ _ _ _ _ _ _ _ _ _ _ _ _ _ _ _ _ _ _ _ _
          · go_wp2_with fail
            exact hq.out true (by simp) _ _ _ _ _ _ _ _ _ _ _ _ _ _ _ _ _ _ _ _ _ _ _

def ops45_3 (ps : String) : Array Oper := #[{ dst := some 42, op := Op.fieldAddr 37 (Operand.tmp 1) 8, type := 0, pos := ps, after := #[], guard := none }, { dst := some 43, op := Op.load 3 (Operand.tmp 42), type := 3, pos := ps, after := #[{ on := 0, ground := Ground.data }], guard := none }, { dst := some 44, op := Op.call { callee := Callee.value (Operand.func 97), args := #[Operand.tmp 43], argTypes := #[3] }, type := 4, pos := ps, after := #[{ on := 1, ground := Ground.data }], guard := none }, { dst := some 45, op := Op.move (Operand.tmp 44), type := 4, pos := ps, after := #[{ on := 2, ground := Ground.data }, { on := 2, ground := Ground.chain }], guard := none }, { dst := some 46, op := Op.fieldAddr 37 (Operand.tmp 1) 9, type := 0, pos := ps, after := #[{ on := 3, ground := Ground.guard }], guard := some (3, true) }, { dst := some 47, op := Op.load 3 (Operand.tmp 46), type := 3, pos := ps, after := #[{ on := 4, ground := Ground.data }, { on := 3, ground := Ground.guard }], guard := some (3, true) }, { dst := some 48, op := Op.call { callee := Callee.value (Operand.func 97), args := #[Operand.tmp 47], argTypes := #[3] }, type := 4, pos := ps, after := #[{ on := 5, ground := Ground.data }, { on := 3, ground := Ground.chain }, { on := 3, ground := Ground.guard }], guard := some (3, true) }, { dst := some 49, op := Op.pick (Operand.tmp 45) (Operand.tmp 48) (Operand.const (Value.bool false)), type := 4, pos := ps, after := #[{ on := 3, ground := Ground.data }, { on := 6, ground := Ground.data }], guard := none }, { dst := some 50, op := Op.move (Operand.tmp 49), type := 4, pos := ps, after := #[{ on := 7, ground := Ground.data }, { on := 6, ground := Ground.chain }], guard := none }, { dst := some 51, op := Op.fieldAddr 37 (Operand.tmp 1) 12, type := 0, pos := ps, after := #[{ on := 8, ground := Ground.guard }], guard := some (8, true) }, { dst := some 52, op := Op.load 3 (Operand.tmp 51), type := 3, pos := ps, after := #[{ on := 9, ground := Ground.data }, { on := 8, ground := Ground.guard }], guard := some (8, true) }, { dst := some 53, op := Op.call { callee := Callee.value (Operand.func 97), args := #[Operand.tmp 52], argTypes := #[3] }, type := 4, pos := ps, after := #[{ on := 10, ground := Ground.data }, { on := 8, ground := Ground.chain }, { on := 8, ground := Ground.guard }], guard := some (8, true) }, { dst := some 54, op := Op.pick (Operand.tmp 50) (Operand.tmp 53) (Operand.const (Value.bool false)), type := 4, pos := ps, after := #[{ on := 8, ground := Ground.data }, { on := 11, ground := Ground.data }], guard := none }, { dst := some 55, op := Op.move (Operand.tmp 54), type := 4, pos := ps, after := #[{ on := 12, ground := Ground.data }, { on := 11, ground := Ground.chain }], guard := none }, { dst := some 56, op := Op.fieldAddr 37 (Operand.tmp 1) 13, type := 0, pos := ps, after := #[{ on := 13, ground := Ground.guard }], guard := some (13, true) }, { dst := some 57, op := Op.load 3 (Operand.tmp 56), type := 3, pos := ps, after := #[{ on := 14, ground := Ground.data }, { on := 13, ground := Ground.guard }], guard := some (13, true) }, { dst := some 58, op := Op.call { callee := Callee.value (Operand.func 97), args := #[Operand.tmp 57], argTypes := #[3] }, type := 4, pos := ps, after := #[{ on := 15, ground := Ground.data }, { on := 13, ground := Ground.chain }, { on := 13, ground := Ground.guard }], guard := some (13, true) }, { dst := some 59, op := Op.pick (Operand.tmp 55) (Operand.tmp 58) (Operand.const (Value.bool false)), type := 4, pos := ps, after := #[{ on := 13, ground := Ground.data }, { on := 16, ground := Ground.data }], guard := none }, { dst := some 5, op := Op.assign (Operand.tmp 59), type := 4, pos := ps, after := #[{ on := 17, ground := Ground.data }, { on := 16, ground := Ground.chain }, { on := 0, ground := Ground.phase }, { on := 1, ground := Ground.phase }, { on := 2, ground := Ground.phase }, { on := 3, ground := Ground.phase }, { on := 4, ground := Ground.phase }, { on := 5, ground := Ground.phase }, { on := 6, ground := Ground.phase }, { on := 7, ground := Ground.phase }, { on := 8, ground := Ground.phase }, { on := 9, ground := Ground.phase }, { on := 10, ground := Ground.phase }, { on := 11, ground := Ground.phase }, { on := 12, ground := Ground.phase }, { on := 13, ground := Ground.phase }, { on := 14, ground := Ground.phase }, { on := 15, ground := Ground.phase }, { on := 16, ground := Ground.phase }, { on := 17, ground := Ground.phase }], guard := none }]
set_option maxRecDepth 100000 in
set_option maxHeartbeats 2000000 in
theorem props_r3 (Q : Exit → Act → World → Prop) (id : Nat) (ps : String) {v0 v2 v3 v4 v5 v6 v7 v8 v9 v10 v11 v12 v13 v14 v15 v16 v17 v18 v19 v20 v21 v22 v23 v24 v25 v26 v27 v28 v29 v30 v31 v32 v33 v34 v35 v36 v37 v38 v39 v40 v41 v42 v43 v44 v45 v46 v47 v48 v49 v50 v51 v52 v53 v54 v55 v56 v57 v58 v59 v60 v61 v62 v63 v64 v65 v66 v67 v68 v69 v70 v71 v72 v73 v74 v75 v76 v77 v78 v79 v80 v81 v82 v83 v84 v85 v86 v87 v88 v89 v90 v91 : Value} (g : Nat) (x8 x9 x12 x13 : Int) (b8 : Bool) (b9 : Bool) (b12 : Bool) (b13 : Bool)  (w : World)
    (h8 : ∀ w : World, Calls Try.prog 97 #[.int .i64 x8] w fun e w' => e = .returned (.bool b8) ∧ w' = w)
    (h9 : ∀ w : World, Calls Try.prog 97 #[.int .i64 x9] w fun e w' => e = .returned (.bool b9) ∧ w' = w)
    (h12 : ∀ w : World, Calls Try.prog 97 #[.int .i64 x12] w fun e w' => e = .returned (.bool b12) ∧ w' = w)
    (h13 : ∀ w : World, Calls Try.prog 97 #[.int .i64 x13] w fun e w' => e = .returned (.bool b13) ∧ w' = w)
    (m8 : w.cell? ⟨g, 8, none⟩ = some (.int .i64 x8))
    (m9 : w.cell? ⟨g, 9, none⟩ = some (.int .i64 x9))
    (m12 : w.cell? ⟨g, 12, none⟩ = some (.int .i64 x12))
    (m13 : w.cell? ⟨g, 13, none⟩ = some (.int .i64 x13))
    (hq : Hid (∀ r, r = (b8 && b9 && b12 && b13) → ∀ u42 u43 u44 u45 u46 u47 u48 u49 u50 u51 u52 u53 u54 u55 u56 u57 u58 u59, Q .normal (fr45 v0 (.pointer (some ⟨g, 0, none⟩)) v2 v3 v4 (.bool r) v6 v7 v8 v9 v10 v11 v12 v13 v14 v15 v16 v17 v18 v19 v20 v21 v22 v23 v24 v25 v26 v27 v28 v29 v30 v31 v32 v33 v34 v35 v36 v37 v38 v39 v40 v41 u42 u43 u44 u45 u46 u47 u48 u49 u50 u51 u52 u53 u54 u55 u56 u57 u58 u59 v60 v61 v62 v63 v64 v65 v66 v67 v68 v69 v70 v71 v72 v73 v74 v75 v76 v77 v78 v79 v80 v81 v82 v83 v84 v85 v86 v87 v88 v89 v90 v91) w)) :
    (Code.region id (ops45_3 ps) false).wp Try.prog Q (fr45 v0 (.pointer (some ⟨g, 0, none⟩)) v2 v3 v4 v5 v6 v7 v8 v9 v10 v11 v12 v13 v14 v15 v16 v17 v18 v19 v20 v21 v22 v23 v24 v25 v26 v27 v28 v29 v30 v31 v32 v33 v34 v35 v36 v37 v38 v39 v40 v41 v42 v43 v44 v45 v46 v47 v48 v49 v50 v51 v52 v53 v54 v55 v56 v57 v58 v59 v60 v61 v62 v63 v64 v65 v66 v67 v68 v69 v70 v71 v72 v73 v74 v75 v76 v77 v78 v79 v80 v81 v82 v83 v84 v85 v86 v87 v88 v89 v90 v91) w := by
  unfold ops45_3 fr45
  go_wp2_with fail
  refine (h8 _).mono ?_
  rintro e w' ⟨rfl, hww⟩
  subst w'
  cases b8
  · go_wp2_with fail
    exact hq.out false (by simp) _ _ _ _ _ _ _ _ _ _ _ _ _ _ _ _ _ _
  · go_wp2_with fail
    refine (h9 _).mono ?_
    rintro e w' ⟨rfl, hww⟩
    subst w'
    cases b9
    · go_wp2_with fail
      exact hq.out false (by simp) _ _ _ _ _ _ _ _ _ _ _ _ _ _ _ _ _ _
    · go_wp2_with fail
      refine (h12 _).mono ?_
      rintro e w' ⟨rfl, hww⟩
      subst w'
      cases b12
      · go_wp2_with fail
        exact hq.out false (by simp) _ _ _ _ _ _ _ _ _ _ _ _ _ _ _ _ _ _
      · go_wp2_with fail
        refine (h13 _).mono ?_
        rintro e w' ⟨rfl, hww⟩
        subst w'
        cases b13
        · go_wp2_with fail
          exact hq.out false (by simp) _ _ _ _ _ _ _ _ _ _ _ _ _ _ _ _ _ _
        · go_wp2_with fail
          exact hq.out true (by simp) _ _ _ _ _ _ _ _ _ _ _ _ _ _ _ _ _ _

def ops45_4 (ps : String) : Array Oper := #[{ dst := some 60, op := Op.move (Operand.tmp 3), type := 4, pos := ps, after := #[], guard := none }, { dst := some 61, op := Op.move (Operand.tmp 60), type := 4, pos := ps, after := #[{ on := 0, ground := Ground.data }], guard := none }, { dst := some 62, op := Op.move (Operand.tmp 4), type := 4, pos := ps, after := #[{ on := 1, ground := Ground.guard }], guard := some (1, true) }, { dst := some 63, op := Op.pick (Operand.tmp 61) (Operand.tmp 62) (Operand.const (Value.bool false)), type := 4, pos := ps, after := #[{ on := 1, ground := Ground.data }, { on := 2, ground := Ground.data }], guard := none }, { dst := some 64, op := Op.move (Operand.tmp 63), type := 4, pos := ps, after := #[{ on := 3, ground := Ground.data }, { on := 1, ground := Ground.chain }], guard := none }, { dst := some 65, op := Op.move (Operand.tmp 5), type := 4, pos := ps, after := #[{ on := 4, ground := Ground.guard }], guard := some (4, true) }, { dst := some 66, op := Op.pick (Operand.tmp 64) (Operand.tmp 65) (Operand.const (Value.bool false)), type := 4, pos := ps, after := #[{ on := 4, ground := Ground.data }, { on := 5, ground := Ground.data }], guard := none }, { dst := some 67, op := Op.move (Operand.tmp 66), type := 4, pos := ps, after := #[{ on := 6, ground := Ground.data }, { on := 4, ground := Ground.chain }], guard := none }, { dst := some 68, op := Op.fieldAddr 37 (Operand.tmp 1) 10, type := 0, pos := ps, after := #[{ on := 7, ground := Ground.guard }], guard := some (7, true) }, { dst := some 69, op := Op.load 3 (Operand.tmp 68), type := 3, pos := ps, after := #[{ on := 8, ground := Ground.data }, { on := 7, ground := Ground.guard }], guard := some (7, true) }, { dst := some 70, op := Op.call { callee := Callee.value (Operand.func 96), args := #[Operand.tmp 69, Operand.const (Value.int IntKind.i64 1), Operand.const (Value.int IntKind.i64 4)], argTypes := #[3, 3, 3] }, type := 4, pos := ps, after := #[{ on := 9, ground := Ground.data }, { on := 7, ground := Ground.chain }, { on := 7, ground := Ground.guard }], guard := some (7, true) }, { dst := some 71, op := Op.pick (Operand.tmp 67) (Operand.tmp 70) (Operand.const (Value.bool false)), type := 4, pos := ps, after := #[{ on := 7, ground := Ground.data }, { on := 10, ground := Ground.data }], guard := none }, { dst := some 72, op := Op.move (Operand.tmp 71), type := 4, pos := ps, after := #[{ on := 11, ground := Ground.data }, { on := 10, ground := Ground.chain }], guard := none }, { dst := some 73, op := Op.fieldAddr 37 (Operand.tmp 1) 11, type := 0, pos := ps, after := #[{ on := 12, ground := Ground.guard }], guard := some (12, true) }, { dst := some 74, op := Op.load 3 (Operand.tmp 73), type := 3, pos := ps, after := #[{ on := 13, ground := Ground.data }, { on := 12, ground := Ground.guard }], guard := some (12, true) }, { dst := some 75, op := Op.call { callee := Callee.value (Operand.func 96), args := #[Operand.tmp 74, Operand.const (Value.int IntKind.i64 1), Operand.const (Value.int IntKind.i64 4)], argTypes := #[3, 3, 3] }, type := 4, pos := ps, after := #[{ on := 14, ground := Ground.data }, { on := 12, ground := Ground.chain }, { on := 12, ground := Ground.guard }], guard := some (12, true) }, { dst := some 76, op := Op.pick (Operand.tmp 72) (Operand.tmp 75) (Operand.const (Value.bool false)), type := 4, pos := ps, after := #[{ on := 12, ground := Ground.data }, { on := 15, ground := Ground.data }], guard := none }, { dst := some 77, op := Op.move (Operand.tmp 76), type := 4, pos := ps, after := #[{ on := 16, ground := Ground.data }, { on := 15, ground := Ground.chain }], guard := none }, { dst := some 78, op := Op.fieldAddr 37 (Operand.tmp 1) 14, type := 0, pos := ps, after := #[{ on := 17, ground := Ground.guard }], guard := some (17, true) }, { dst := some 79, op := Op.load 3 (Operand.tmp 78), type := 3, pos := ps, after := #[{ on := 18, ground := Ground.data }, { on := 17, ground := Ground.guard }], guard := some (17, true) }, { dst := some 80, op := Op.call { callee := Callee.value (Operand.func 96), args := #[Operand.tmp 79, Operand.const (Value.int IntKind.i64 0), Operand.const (Value.int IntKind.i64 4)], argTypes := #[3, 3, 3] }, type := 4, pos := ps, after := #[{ on := 19, ground := Ground.data }, { on := 17, ground := Ground.chain }, { on := 17, ground := Ground.guard }], guard := some (17, true) }, { dst := some 81, op := Op.pick (Operand.tmp 77) (Operand.tmp 80) (Operand.const (Value.bool false)), type := 4, pos := ps, after := #[{ on := 17, ground := Ground.data }, { on := 20, ground := Ground.data }], guard := none }, { dst := some 82, op := Op.move (Operand.tmp 81), type := 4, pos := ps, after := #[{ on := 21, ground := Ground.data }, { on := 20, ground := Ground.chain }], guard := none }, { dst := some 83, op := Op.fieldAddr 37 (Operand.tmp 1) 15, type := 0, pos := ps, after := #[{ on := 22, ground := Ground.guard }], guard := some (22, true) }, { dst := some 84, op := Op.load 3 (Operand.tmp 83), type := 3, pos := ps, after := #[{ on := 23, ground := Ground.data }, { on := 22, ground := Ground.guard }], guard := some (22, true) }, { dst := some 85, op := Op.call { callee := Callee.value (Operand.func 96), args := #[Operand.tmp 84, Operand.const (Value.int IntKind.i64 0), Operand.const (Value.int IntKind.i64 8)], argTypes := #[3, 3, 3] }, type := 4, pos := ps, after := #[{ on := 24, ground := Ground.data }, { on := 22, ground := Ground.chain }, { on := 22, ground := Ground.guard }], guard := some (22, true) }, { dst := some 86, op := Op.pick (Operand.tmp 82) (Operand.tmp 85) (Operand.const (Value.bool false)), type := 4, pos := ps, after := #[{ on := 22, ground := Ground.data }, { on := 25, ground := Ground.data }], guard := none }, { dst := some 87, op := Op.move (Operand.tmp 86), type := 4, pos := ps, after := #[{ on := 26, ground := Ground.data }, { on := 25, ground := Ground.chain }], guard := none }, { dst := some 88, op := Op.fieldAddr 37 (Operand.tmp 1) 16, type := 0, pos := ps, after := #[{ on := 27, ground := Ground.guard }], guard := some (27, true) }, { dst := some 89, op := Op.load 3 (Operand.tmp 88), type := 3, pos := ps, after := #[{ on := 28, ground := Ground.data }, { on := 27, ground := Ground.guard }], guard := some (27, true) }, { dst := some 90, op := Op.call { callee := Callee.value (Operand.func 96), args := #[Operand.tmp 89, Operand.const (Value.int IntKind.i64 0), Operand.const (Value.int IntKind.i64 3)], argTypes := #[3, 3, 3] }, type := 4, pos := ps, after := #[{ on := 29, ground := Ground.data }, { on := 27, ground := Ground.chain }, { on := 27, ground := Ground.guard }], guard := some (27, true) }, { dst := some 91, op := Op.pick (Operand.tmp 87) (Operand.tmp 90) (Operand.const (Value.bool false)), type := 4, pos := ps, after := #[{ on := 27, ground := Ground.data }, { on := 30, ground := Ground.data }], guard := none }, { dst := some 2, op := Op.assign (Operand.tmp 91), type := 4, pos := ps, after := #[{ on := 31, ground := Ground.data }, { on := 30, ground := Ground.chain }, { on := 0, ground := Ground.phase }, { on := 1, ground := Ground.phase }, { on := 2, ground := Ground.phase }, { on := 3, ground := Ground.phase }, { on := 4, ground := Ground.phase }, { on := 5, ground := Ground.phase }, { on := 6, ground := Ground.phase }, { on := 7, ground := Ground.phase }, { on := 8, ground := Ground.phase }, { on := 9, ground := Ground.phase }, { on := 10, ground := Ground.phase }, { on := 11, ground := Ground.phase }, { on := 12, ground := Ground.phase }, { on := 13, ground := Ground.phase }, { on := 14, ground := Ground.phase }, { on := 15, ground := Ground.phase }, { on := 16, ground := Ground.phase }, { on := 17, ground := Ground.phase }, { on := 18, ground := Ground.phase }, { on := 19, ground := Ground.phase }, { on := 20, ground := Ground.phase }, { on := 21, ground := Ground.phase }, { on := 22, ground := Ground.phase }, { on := 23, ground := Ground.phase }, { on := 24, ground := Ground.phase }, { on := 25, ground := Ground.phase }, { on := 26, ground := Ground.phase }, { on := 27, ground := Ground.phase }, { on := 28, ground := Ground.phase }, { on := 29, ground := Ground.phase }, { on := 30, ground := Ground.phase }, { on := 31, ground := Ground.phase }], guard := none }]
set_option maxRecDepth 100000 in
set_option maxHeartbeats 2000000 in
theorem props_r4 (Q : Exit → Act → World → Prop) (id : Nat) (ps : String) {v0 v2 v6 v7 v8 v9 v10 v11 v12 v13 v14 v15 v16 v17 v18 v19 v20 v21 v22 v23 v24 v25 v26 v27 v28 v29 v30 v31 v32 v33 v34 v35 v36 v37 v38 v39 v40 v41 v42 v43 v44 v45 v46 v47 v48 v49 v50 v51 v52 v53 v54 v55 v56 v57 v58 v59 v60 v61 v62 v63 v64 v65 v66 v67 v68 v69 v70 v71 v72 v73 v74 v75 v76 v77 v78 v79 v80 v81 v82 v83 v84 v85 v86 v87 v88 v89 v90 v91 : Value} (g : Nat) (x10 x11 x14 x15 x16 : Int) (b10 : Bool) (b11 : Bool) (b14 : Bool) (b15 : Bool) (b16 : Bool) (c3 : Bool) (c4 : Bool) (c5 : Bool) (w : World)
    (h10 : ∀ w : World, Calls Try.prog 96 #[.int .i64 x10, .int .i64 1, .int .i64 4] w fun e w' => e = .returned (.bool b10) ∧ w' = w)
    (h11 : ∀ w : World, Calls Try.prog 96 #[.int .i64 x11, .int .i64 1, .int .i64 4] w fun e w' => e = .returned (.bool b11) ∧ w' = w)
    (h14 : ∀ w : World, Calls Try.prog 96 #[.int .i64 x14, .int .i64 0, .int .i64 4] w fun e w' => e = .returned (.bool b14) ∧ w' = w)
    (h15 : ∀ w : World, Calls Try.prog 96 #[.int .i64 x15, .int .i64 0, .int .i64 8] w fun e w' => e = .returned (.bool b15) ∧ w' = w)
    (h16 : ∀ w : World, Calls Try.prog 96 #[.int .i64 x16, .int .i64 0, .int .i64 3] w fun e w' => e = .returned (.bool b16) ∧ w' = w)
    (m10 : w.cell? ⟨g, 10, none⟩ = some (.int .i64 x10))
    (m11 : w.cell? ⟨g, 11, none⟩ = some (.int .i64 x11))
    (m14 : w.cell? ⟨g, 14, none⟩ = some (.int .i64 x14))
    (m15 : w.cell? ⟨g, 15, none⟩ = some (.int .i64 x15))
    (m16 : w.cell? ⟨g, 16, none⟩ = some (.int .i64 x16))
    (hq : Hid (∀ r, r = (c3 && c4 && c5 && b10 && b11 && b14 && b15 && b16) → ∀ u60 u61 u62 u63 u64 u65 u66 u67 u68 u69 u70 u71 u72 u73 u74 u75 u76 u77 u78 u79 u80 u81 u82 u83 u84 u85 u86 u87 u88 u89 u90 u91, Q .normal (fr45 v0 (.pointer (some ⟨g, 0, none⟩)) (.bool r) (.bool c3) (.bool c4) (.bool c5) v6 v7 v8 v9 v10 v11 v12 v13 v14 v15 v16 v17 v18 v19 v20 v21 v22 v23 v24 v25 v26 v27 v28 v29 v30 v31 v32 v33 v34 v35 v36 v37 v38 v39 v40 v41 v42 v43 v44 v45 v46 v47 v48 v49 v50 v51 v52 v53 v54 v55 v56 v57 v58 v59 u60 u61 u62 u63 u64 u65 u66 u67 u68 u69 u70 u71 u72 u73 u74 u75 u76 u77 u78 u79 u80 u81 u82 u83 u84 u85 u86 u87 u88 u89 u90 u91) w)) :
    (Code.region id (ops45_4 ps) false).wp Try.prog Q (fr45 v0 (.pointer (some ⟨g, 0, none⟩)) v2 (.bool c3) (.bool c4) (.bool c5) v6 v7 v8 v9 v10 v11 v12 v13 v14 v15 v16 v17 v18 v19 v20 v21 v22 v23 v24 v25 v26 v27 v28 v29 v30 v31 v32 v33 v34 v35 v36 v37 v38 v39 v40 v41 v42 v43 v44 v45 v46 v47 v48 v49 v50 v51 v52 v53 v54 v55 v56 v57 v58 v59 v60 v61 v62 v63 v64 v65 v66 v67 v68 v69 v70 v71 v72 v73 v74 v75 v76 v77 v78 v79 v80 v81 v82 v83 v84 v85 v86 v87 v88 v89 v90 v91) w := by
  unfold ops45_4 fr45
  cases c3
  · go_wp2_with fail
    exact hq.out false (by simp) _ _ _ _ _ _ _ _ _ _ _ _ _ _ _ _ _ _ _ _ _ _ _ _ _ _ _ _ _ _ _ _
  · cases c4
    · go_wp2_with fail
      exact hq.out false (by simp) _ _ _ _ _ _ _ _ _ _ _ _ _ _ _ _ _ _ _ _ _ _ _ _ _ _ _ _ _ _ _ _
    · cases c5
      · go_wp2_with fail
        exact hq.out false (by simp) _ _ _ _ _ _ _ _ _ _ _ _ _ _ _ _ _ _ _ _ _ _ _ _ _ _ _ _ _ _ _ _
      · go_wp2_with fail
        refine (h10 _).mono ?_
        rintro e w' ⟨rfl, hww⟩
        subst w'
        cases b10
        · go_wp2_with fail
          exact hq.out false (by simp) _ _ _ _ _ _ _ _ _ _ _ _ _ _ _ _ _ _ _ _ _ _ _ _ _ _ _ _ _ _ _ _
        · go_wp2_with fail
          refine (h11 _).mono ?_
          rintro e w' ⟨rfl, hww⟩
          subst w'
          cases b11
          · go_wp2_with fail
            exact hq.out false (by simp) _ _ _ _ _ _ _ _ _ _ _ _ _ _ _ _ _ _ _ _ _ _ _ _ _ _ _ _ _ _ _ _
          · go_wp2_with fail
            refine (h14 _).mono ?_
            rintro e w' ⟨rfl, hww⟩
            subst w'
            cases b14
            · go_wp2_with fail
              exact hq.out false (by simp) _ _ _ _ _ _ _ _ _ _ _ _ _ _ _ _ _ _ _ _ _ _ _ _ _ _ _ _ _ _ _ _
            · go_wp2_with fail
              refine (h15 _).mono ?_
              rintro e w' ⟨rfl, hww⟩
              subst w'
              cases b15
              · go_wp2_with fail
                exact hq.out false (by simp) _ _ _ _ _ _ _ _ _ _ _ _ _ _ _ _ _ _ _ _ _ _ _ _ _ _ _ _ _ _ _ _
              · go_wp2_with fail
                refine (h16 _).mono ?_
                rintro e w' ⟨rfl, hww⟩
                subst w'
                cases b16
                · go_wp2_with fail
                  exact hq.out false (by simp) _ _ _ _ _ _ _ _ _ _ _ _ _ _ _ _ _ _ _ _ _ _ _ _ _ _ _ _ _ _ _ _
                · go_wp2_with fail
                  exact hq.out true (by simp) _ _ _ _ _ _ _ _ _ _ _ _ _ _ _ _ _ _ _ _ _ _ _ _ _ _ _ _ _ _ _ _


set_option maxRecDepth 100000 in
set_option maxHeartbeats 4000000 in
theorem props_any (p : Pr) (w : World) : Calls Try.prog 78 #[.agg (prL p).toArray] w fun e w' => e = .returned (.bool (keepB (prB p))) ∧ Below w.heap.size w w' := by
  obtain ⟨x0, x1, x2, x3, x4, x5, x6, x7, x8, x9, x10, x11, x12, x13, x14, x15, x16⟩ := p
  have hB := (Below.refl w.heap.size w).alloc (Nat.le_refl _) (.cells #[.int .i64 x0, .int .i64 x1, .int .i64 x2, .int .i64 x3, .int .i64 x4, .int .i64 x5, .int .i64 x6, .int .i64 x7, .int .i64 x8, .int .i64 x9, .int .i64 x10, .int .i64 x11, .int .i64 x12, .int .i64 x13, .int .i64 x14, .int .i64 x15, .int .i64 x16] 37)
  have hrow : (w.alloc (.cells #[.int .i64 x0, .int .i64 x1, .int .i64 x2, .int .i64 x3, .int .i64 x4, .int .i64 x5, .int .i64 x6, .int .i64 x7, .int .i64 x8, .int .i64 x9, .int .i64 x10, .int .i64 x11, .int .i64 x12, .int .i64 x13, .int .i64 x14, .int .i64 x15, .int .i64 x16] 37)).heap[w.heap.size]? = some (.cells #[.int .i64 x0, .int .i64 x1, .int .i64 x2, .int .i64 x3, .int .i64 x4, .int .i64 x5, .int .i64 x6, .int .i64 x7, .int .i64 x8, .int .i64 x9, .int .i64 x10, .int .i64 x11, .int .i64 x12, .int .i64 x13, .int .i64 x14, .int .i64 x15, .int .i64 x16] 37) := World.alloc_heap_new w _
  have C : Hid (∀ (k : Nat) {v : Value}, #[.int .i64 x0, .int .i64 x1, .int .i64 x2, .int .i64 x3, .int .i64 x4, .int .i64 x5, .int .i64 x6, .int .i64 x7, .int .i64 x8, .int .i64 x9, .int .i64 x10, .int .i64 x11, .int .i64 x12, .int .i64 x13, .int .i64 x14, .int .i64 x15, .int .i64 x16][k]? = some v → (w.alloc (.cells #[.int .i64 x0, .int .i64 x1, .int .i64 x2, .int .i64 x3, .int .i64 x4, .int .i64 x5, .int .i64 x6, .int .i64 x7, .int .i64 x8, .int .i64 x9, .int .i64 x10, .int .i64 x11, .int .i64 x12, .int .i64 x13, .int .i64 x14, .int .i64 x15, .int .i64 x16] 37)).cell? ⟨w.heap.size, k, none⟩ = some v) := fun k v h => by
    rw [Lib.cell_of_heap hrow, h]
  clear hrow
  show Calls Try.prog 78 #[.agg #[.int .i64 x0, .int .i64 x1, .int .i64 x2, .int .i64 x3, .int .i64 x4, .int .i64 x5, .int .i64 x6, .int .i64 x7, .int .i64 x8, .int .i64 x9, .int .i64 x10, .int .i64 x11, .int .i64 x12, .int .i64 x13, .int .i64 x14, .int .i64 x15, .int .i64 x16]] w _
  go_enter Try.func78, Try.ntmps78
  apply wp_seq_k; intro K0 hK0
  replace hK0 : Hid _ := hK0
  go_wp2_with fail
  refine hK0.out _ _ ?_
  clear hK0 K0
  apply wp_seq_k; intro K1 hK1
  refine props_r1 _ _ _ w.heap.size _ _ _ _ _ _  _ (from_any x0 1 64) (from_any x1 1 255) (from_any x2 0 3) (C.out 0 rfl) (C.out 1 rfl) (C.out 2 rfl) (fun r1 e1 _ _ _ _ _ _ _ _ _ _ _ _ _ => hK1 _ _ ?_)
  clear hK1 K1
  apply wp_seq_k; intro K2 hK2
  refine props_r2 _ _ _ w.heap.size _ _ _ _ _ _ _ _ _ _  _ (from_any x3 0 255) (from_any x4 0 255) (from_any x5 0 255) (from_any x6 0 255) (from_any x7 0 255) (C.out 3 rfl) (C.out 4 rfl) (C.out 5 rfl) (C.out 6 rfl) (C.out 7 rfl) (fun r2 e2 _ _ _ _ _ _ _ _ _ _ _ _ _ _ _ _ _ _ _ _ _ _ _ => hK2 _ _ ?_)
  clear hK2 K2
  apply wp_seq_k; intro K3 hK3
  refine props_r3 _ _ _ w.heap.size _ _ _ _ _ _ _ _  _ (bit_any x8) (bit_any x9) (bit_any x12) (bit_any x13) (C.out 8 rfl) (C.out 9 rfl) (C.out 12 rfl) (C.out 13 rfl) (fun r3 e3 _ _ _ _ _ _ _ _ _ _ _ _ _ _ _ _ _ _ => hK3 _ _ ?_)
  clear hK3 K3
  apply wp_seq_k; intro K4 hK4
  refine props_r4 _ _ _ w.heap.size _ _ _ _ _ _ _ _ _ _ _ _ _ _ (from_any x10 1 4) (from_any x11 1 4) (from_any x14 0 4) (from_any x15 0 8) (from_any x16 0 3) (C.out 10 rfl) (C.out 11 rfl) (C.out 14 rfl) (C.out 15 rfl) (C.out 16 rfl) (fun r4 e4 _ _ _ _ _ _ _ _ _ _ _ _ _ _ _ _ _ _ _ _ _ _ _ _ _ _ _ _ _ _ _ _ => hK4 _ _ ?_)
  clear hK4 K4
  replace e1 : Hid _ := e1
  replace e2 : Hid _ := e2
  replace e3 : Hid _ := e3
  replace e4 : Hid _ := e4
  unfold fr45
  go_wp2_with fail
  go_ret
  refine ⟨?_, hB⟩
  show Ending.returned (Value.bool r4) = _
  rw [e4.out, e1.out, e2.out, e3.out]
  simp only [keepB, prB, List.all_cons, List.all_nil, Bool.and_true]
  congr 2
  ac_rfl
end Go.Proofs.Ytkhnfmdhdfpdhaa
