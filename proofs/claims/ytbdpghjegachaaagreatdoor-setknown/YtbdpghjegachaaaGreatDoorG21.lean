/-
  What is proved here: Place, from the drop capital on.
  What is proved here: how many masses are ahead of a place, and whether that is a boundary.
-/
import Derived.Test.YtbdpghjegachaaaGreatDoorG20
import Derived.Test.YtbdpghjegachaaaGreatDoorG4
import Derived.Test.YtbdpghjegachaaaGreatDoorG10
namespace Go.Proofs.YtbdpghjegachaaaGreatDoor
open Go.RowKit Go.Shelf

def rest8 : Code := (Code.region 8 #[{ dst := some 14, op := Op.assign (Operand.const (Value.slice none 0 0)), type := 31, pos := "set.go:50", after := #[], guard := none }] false).seq (((Code.region 9 #[{ dst := some 64, op := Op.move (Operand.tmp 10), type := 3, pos := "set.go:51", after := #[], guard := none }, { dst := some 65, op := Op.binOp BinOp.eql 3 (Operand.tmp 64) (Operand.const (Value.int IntKind.i64 0)) 3, type := 4, pos := "set.go:51", after := #[{ on := 0, ground := Ground.data }], guard := none }, { dst := some 66, op := Op.move (Operand.tmp 65), type := 4, pos := "set.go:51", after := #[{ on := 1, ground := Ground.data }], guard := none }, { dst := some 67, op := Op.move (Operand.tmp 12), type := 3, pos := "set.go:51", after := #[{ on := 2, ground := Ground.guard }], guard := some (2, true) }, { dst := some 68, op := Op.binOp BinOp.gtr 3 (Operand.tmp 67) (Operand.const (Value.int IntKind.i64 0)) 3, type := 4, pos := "set.go:51", after := #[{ on := 3, ground := Ground.data }, { on := 2, ground := Ground.guard }], guard := some (2, true) }, { dst := some 69, op := Op.pick (Operand.tmp 66) (Operand.tmp 68) (Operand.const (Value.bool false)), type := 4, pos := "set.go:51", after := #[{ on := 2, ground := Ground.data }, { on := 4, ground := Ground.data }], guard := none }, { dst := some 70, op := Op.move (Operand.tmp 69), type := 4, pos := "set.go:51", after := #[{ on := 5, ground := Ground.data }, { on := 2, ground := Ground.chain }], guard := none }, { dst := some 71, op := Op.load 27 (Operand.tmp 3), type := 27, pos := "set.go:51", after := #[{ on := 6, ground := Ground.guard }], guard := some (6, true) }, { dst := some 72, op := Op.move (Operand.tmp 8), type := 48, pos := "set.go:51", after := #[{ on := 6, ground := Ground.guard }], guard := some (6, true) }, { dst := some 73, op := Op.call { callee := Callee.value (Operand.func 24), args := #[Operand.tmp 71, Operand.tmp 72], argTypes := #[27, 48] }, type := 4, pos := "set.go:51", after := #[{ on := 7, ground := Ground.data }, { on := 8, ground := Ground.data }, { on := 6, ground := Ground.chain }, { on := 6, ground := Ground.guard }], guard := some (6, true) }, { dst := some 74, op := Op.pick (Operand.tmp 70) (Operand.tmp 73) (Operand.const (Value.bool false)), type := 4, pos := "set.go:51", after := #[{ on := 6, ground := Ground.data }, { on := 9, ground := Ground.data }], guard := none }] false).seq (Code.cond (Operand.tmp 74) ((Code.region 10 #[{ dst := some 75, op := Op.move (Operand.tmp 14), type := 31, pos := "set.go:52", after := #[], guard := none }, { dst := some 76, op := Op.load 27 (Operand.tmp 3), type := 27, pos := "set.go:52", after := #[], guard := none }, { dst := some 77, op := Op.move (Operand.tmp 8), type := 48, pos := "set.go:52", after := #[], guard := none }, { dst := some 78, op := Op.indexAddr 48 (Operand.tmp 77) (Operand.const (Value.int IntKind.i64 0)), type := 0, pos := "set.go:52", after := #[{ on := 2, ground := Ground.data }], guard := none }, { dst := some 79, op := Op.load 53 (Operand.tmp 78), type := 53, pos := "set.go:52", after := #[{ on := 3, ground := Ground.data }], guard := none }, { dst := some 80, op := Op.fieldAddr 29 (Operand.tmp 4) 2, type := 0, pos := "set.go:52", after := #[], guard := none }, { dst := some 81, op := Op.load 3 (Operand.tmp 80), type := 3, pos := "set.go:52", after := #[{ on := 5, ground := Ground.data }], guard := none }, { dst := some 82, op := Op.call { callee := Callee.value (Operand.func 25), args := #[Operand.tmp 76, Operand.tmp 79, Operand.tmp 81], argTypes := #[27, 53, 3] }, type := 41, pos := "set.go:52", after := #[{ on := 1, ground := Ground.data }, { on := 4, ground := Ground.data }, { on := 6, ground := Ground.data }], guard := none }, { dst := some 83, op := Op.buildSlice 31 1 #[(0, Operand.tmp 82)], type := 31, pos := "set.go:52", after := #[{ on := 7, ground := Ground.data }], guard := none }, { dst := some 84, op := Op.call { callee := Callee.builtin Builtin.append, args := #[Operand.tmp 75, Operand.tmp 83], argTypes := #[31, 31] }, type := 31, pos := "set.go:52", after := #[{ on := 0, ground := Ground.data }, { on := 8, ground := Ground.data }, { on := 7, ground := Ground.chain }], guard := none }, { dst := some 14, op := Op.assign (Operand.tmp 84), type := 31, pos := "set.go:52", after := #[{ on := 9, ground := Ground.data }, { on := 9, ground := Ground.chain }, { on := 0, ground := Ground.phase }, { on := 1, ground := Ground.phase }, { on := 2, ground := Ground.phase }, { on := 3, ground := Ground.phase }, { on := 4, ground := Ground.phase }, { on := 5, ground := Ground.phase }, { on := 6, ground := Ground.phase }, { on := 7, ground := Ground.phase }, { on := 8, ground := Ground.phase }, { on := 9, ground := Ground.phase }], guard := none }] true).seq (Code.region 11 #[{ dst := some 10, op := Op.assign (Operand.const (Value.int IntKind.i64 1)), type := 3, pos := "set.go:53", after := #[], guard := none }] false)) Code.skip)).seq rest12)
/-- Is a drop capital in the line? -/
def cpB (a : Pa) (n f t : Nat) (k : Int) : Bool := decide (f = 0) && (decide (0 < t) && capB a n k)
/-- The line's glyphs. -/
def gyL (a : Pa) (l : Ln) (last : Bool) (pn : Int → Bool) (MA : Nat → Ms) (n f t : Nat) : List Gl := if cpB a n f t (MA 0).k = true then lnL a l last pn (fun i => MA (1 + i)) (t - 1) [cpG a (MA 0) l.x] else lnL a l last pn (fun i => MA (f + i)) (t - f) []
set_option maxRecDepth 100000 in
set_option maxHeartbeats 4000000 in
theorem place_f (a : Pa) (l : Ln) (w0 : World) (Pb Lb g n0 cap0 f0 t0 : Nat) (MA : Nat → Ms) (last : Bool) (av : Option Addr) (Cq : Int → Prop) (pn : Int → Bool) (hpart : PartOk a Cq pn) (hA0 : PaAt w0 a) (hG : GoodP a) (hn1 : 0 < n0 → 1 ≤ a.t.size) (hav : 0 < n0 → av = some ⟨g, 0, none⟩) (hcap : n0 ≤ cap0) (hn0 : n0 ≤ 4096) (hf0 : f0 ≤ t0) (ht0 : t0 ≤ n0) (hM : ∀ i, i < n0 → MsOk (MA i)) (hCq : ∀ i, i < n0 → Cq (MA i).q) (h14 : 0 ≤ a.p.p14 ∧ a.p.p14 ≤ 4) (hal : 0 ≤ a.p.p2 ∧ a.p.p2 ≤ 3) (hlx : 0 ≤ l.x ∧ l.x ≤ 4095) (hlw : 0 ≤ l.w ∧ l.w ≤ 4095)
    (W : World) (hlow : Below w0.heap.size w0 W) (hpb : PB W Pb a) (hlb : LB W Lb l) (hR : RF W g 0 n0 MA) (hg : 0 < n0 → w0.heap.size ≤ g ∧ g ≠ Pb ∧ g ≠ Lb)
    (RR : Ending → World → Prop) (hfin : ∀ base v' W', w0.heap.size ≤ base → W'.ownsRow base 41 4 v' (gyL a l last pn MA n0 f0 t0).length ((gyL a l last pn MA n0 f0 t0).flatMap glL) → Below w0.heap.size w0 W' → RR (.returned (.tuple #[v', .int .i64 0])) W') (v0 v1 v5 v6 v7 v9 v11 v13 v14 v15 v16 v17 v18 v19 v20 v21 v22 v23 v24 v25 v26 v27 v28 v29 v30 v31 v32 v33 v34 v35 v36 v37 v38 v39 v40 v41 v42 v43 v44 v45 v46 v47 v48 v49 v50 v51 v52 v53 v54 v55 v56 v57 v58 v59 v60 v61 v62 v63 v64 v65 v66 v67 v68 v69 v70 v71 v72 v73 v74 v75 v76 v77 v78 v79 v80 v81 v82 v83 v84 v85 v86 v87 v88 v89 v90 v91 v92 v93 v94 v95 v96 v97 v98 v99 v100 v101 v102 v103 v104 v105 v106 v107 v108 v109 v110 v111 v112 v113 v114 v115 v116 v117 v118 v119 v120 v121 v122 v123 v124 v125 v126 v127 v128 v129 v130 v131 v132 v133 v134 v135 v136 v137 v138 : Value) :
    rest8.wp Tryz.prog (bodyPost Tryz.prog Tryz.f8 RR) (fr8 v0 v1 (.bool last) (.pointer (some ⟨Pb, 0, none⟩)) (.pointer (some ⟨Lb, 0, none⟩)) v5 v6 v7 (.slice av n0 cap0) v9 (.int .i64 (f0 : Nat)) v11 (.int .i64 (t0 : Nat)) v13 v14 v15 v16 v17 v18 v19 v20 v21 v22 v23 v24 v25 v26 v27 v28 v29 v30 v31 v32 v33 v34 v35 v36 v37 v38 v39 v40 v41 v42 v43 v44 v45 v46 v47 v48 v49 v50 v51 v52 v53 v54 v55 v56 v57 v58 v59 v60 v61 v62 v63 v64 v65 v66 v67 v68 v69 v70 v71 v72 v73 v74 v75 v76 v77 v78 v79 v80 v81 v82 v83 v84 v85 v86 v87 v88 v89 v90 v91 v92 v93 v94 v95 v96 v97 v98 v99 v100 v101 v102 v103 v104 v105 v106 v107 v108 v109 v110 v111 v112 v113 v114 v115 v116 v117 v118 v119 v120 v121 v122 v123 v124 v125 v126 v127 v128 v129 v130 v131 v132 v133 v134 v135 v136 v137 v138) W := by
  have hcapc : Hid (∀ W', Below W.heap.size W W' → Calls Tryz.prog 24 #[.agg (paC a), .slice av n0 cap0] W' fun e w' => e = .returned (.bool (capB a n0 (MA 0).k)) ∧ Below W'.heap.size W' w') := fun W' hb => hasCapital_any a W' g n0 cap0 MA hn0 av hav (hR.below hb (fun h => hR.lt h))
  -- without a drop capital
  have hno : Hid (cpB a n0 f0 t0 (MA 0).k = false → ∀ W', Below W.heap.size W W' → ∀ v0 v1 v5 v6 v7 v9 v11 v13 v15 v16 v17 v18 v19 v20 v21 v22 v23 v24 v25 v26 v27 v28 v29 v30 v31 v32 v33 v34 v35 v36 v37 v38 v39 v40 v41 v42 v43 v44 v45 v46 v47 v48 v49 v50 v51 v52 v53 v54 v55 v56 v57 v58 v59 v60 v61 v62 v63 v64 v65 v66 v67 v68 v69 v70 v71 v72 v73 v74 v75 v76 v77 v78 v79 v80 v81 v82 v83 v84 v85 v86 v87 v88 v89 v90 v91 v92 v93 v94 v95 v96 v97 v98 v99 v100 v101 v102 v103 v104 v105 v106 v107 v108 v109 v110 v111 v112 v113 v114 v115 v116 v117 v118 v119 v120 v121 v122 v123 v124 v125 v126 v127 v128 v129 v130 v131 v132 v133 v134 v135 v136 v137 v138 : Value, rest12.wp Tryz.prog (bodyPost Tryz.prog Tryz.f8 RR) (fr8 v0 v1 (.bool last) (.pointer (some ⟨Pb, 0, none⟩)) (.pointer (some ⟨Lb, 0, none⟩)) v5 v6 v7 (.slice av n0 cap0) v9 (.int .i64 (f0 : Nat)) v11 (.int .i64 (t0 : Nat)) v13 (.slice none 0 0) v15 v16 v17 v18 v19 v20 v21 v22 v23 v24 v25 v26 v27 v28 v29 v30 v31 v32 v33 v34 v35 v36 v37 v38 v39 v40 v41 v42 v43 v44 v45 v46 v47 v48 v49 v50 v51 v52 v53 v54 v55 v56 v57 v58 v59 v60 v61 v62 v63 v64 v65 v66 v67 v68 v69 v70 v71 v72 v73 v74 v75 v76 v77 v78 v79 v80 v81 v82 v83 v84 v85 v86 v87 v88 v89 v90 v91 v92 v93 v94 v95 v96 v97 v98 v99 v100 v101 v102 v103 v104 v105 v106 v107 v108 v109 v110 v111 v112 v113 v114 v115 v116 v117 v118 v119 v120 v121 v122 v123 v124 v125 v126 v127 v128 v129 v130 v131 v132 v133 v134 v135 v136 v137 v138) W') := fun hc W' hb => by
    intro v0 v1 v5 v6 v7 v9 v11 v13 v15 v16 v17 v18 v19 v20 v21 v22 v23 v24 v25 v26 v27 v28 v29 v30 v31 v32 v33 v34 v35 v36 v37 v38 v39 v40 v41 v42 v43 v44 v45 v46 v47 v48 v49 v50 v51 v52 v53 v54 v55 v56 v57 v58 v59 v60 v61 v62 v63 v64 v65 v66 v67 v68 v69 v70 v71 v72 v73 v74 v75 v76 v77 v78 v79 v80 v81 v82 v83 v84 v85 v86 v87 v88 v89 v90 v91 v92 v93 v94 v95 v96 v97 v98 v99 v100 v101 v102 v103 v104 v105 v106 v107 v108 v109 v110 v111 v112 v113 v114 v115 v116 v117 v118 v119 v120 v121 v122 v123 v124 v125 v126 v127 v128 v129 v130 v131 v132 v133 v134 v135 v136 v137 v138
    have e : gyL a l last pn MA n0 f0 t0 = lnL a l last pn (fun i => MA (f0 + i)) (t0 - f0) [] := by unfold gyL; rw [hc]; rfl
    rw [e] at hfin
    have hP : PS w0 a l Pb Lb w0.heap.size (.slice none 0 0) [] W' := ⟨hlow.trans (hb.mono hlow.size), hpb.below hb hpb.lt, ⟨(hb.block _ hlb.lt).trans hlb.row⟩, World.ownsRow_nil _ _ _ _, ⟨Nat.le_refl _, Nat.le_trans hlow.size hb.size⟩, fun k hk => by cases hk⟩
    exact place_a a l w0 Pb Lb g n0 cap0 f0 t0 w0.heap.size MA last (.slice none 0 0) [] av Cq pn hpart hA0 hav hcap hn0 (by simp) hf0 ht0 hM hCq hal hlx hlw W' hP (hR.below hb (fun h => hR.lt h)) (fun h => ⟨(hg h).1, (hg h).2.1, (hg h).2.2, fun e => by cases e⟩) RR (fun v' W2 h1 h2 => hfin _ v' W2 (Nat.le_refl _) h1 h2) v0 v1 v5 v6 v7 v9 v11 v13 v15 v16 v17 v18 v19 v20 v21 v22 v23 v24 v25 v26 v27 v28 v29 v30 v31 v32 v33 v34 v35 v36 v37 v38 v39 v40 v41 v42 v43 v44 v45 v46 v47 v48 v49 v50 v51 v52 v53 v54 v55 v56 v57 v58 v59 v60 v61 v62 v63 v64 v65 v66 v67 v68 v69 v70 v71 v72 v73 v74 v75 v76 v77 v78 v79 v80 v81 v82 v83 v84 v85 v86 v87 v88 v89 v90 v91 v92 v93 v94 v95 v96 v97 v98 v99 v100 v101 v102 v103 v104 v105 v106 v107 v108 v109 v110 v111 v112 v113 v114 v115 v116 v117 v118 v119 v120 v121 v122 v123 v124 v125 v126 v127 v128 v129 v130 v131 v132 v133 v134 v135 v136 v137 v138
  -- with one
  have hyes : Hid (cpB a n0 f0 t0 (MA 0).k = true → 0 < n0 → 0 < t0 → ∀ W1 W2 v', Below W.heap.size W W1 → Below W1.heap.size W1 W2 → W2.ownsRow W1.heap.size 41 4 v' [cpG a (MA 0) l.x].length ([cpG a (MA 0) l.x].flatMap glL) → ∀ v0 v1 v5 v6 v7 v9 v11 v13 v15 v16 v17 v18 v19 v20 v21 v22 v23 v24 v25 v26 v27 v28 v29 v30 v31 v32 v33 v34 v35 v36 v37 v38 v39 v40 v41 v42 v43 v44 v45 v46 v47 v48 v49 v50 v51 v52 v53 v54 v55 v56 v57 v58 v59 v60 v61 v62 v63 v64 v65 v66 v67 v68 v69 v70 v71 v72 v73 v74 v75 v76 v77 v78 v79 v80 v81 v82 v83 v84 v85 v86 v87 v88 v89 v90 v91 v92 v93 v94 v95 v96 v97 v98 v99 v100 v101 v102 v103 v104 v105 v106 v107 v108 v109 v110 v111 v112 v113 v114 v115 v116 v117 v118 v119 v120 v121 v122 v123 v124 v125 v126 v127 v128 v129 v130 v131 v132 v133 v134 v135 v136 v137 v138 : Value, rest12.wp Tryz.prog (bodyPost Tryz.prog Tryz.f8 RR) (fr8 v0 v1 (.bool last) (.pointer (some ⟨Pb, 0, none⟩)) (.pointer (some ⟨Lb, 0, none⟩)) v5 v6 v7 (.slice av n0 cap0) v9 (.int .i64 (1 : Nat)) v11 (.int .i64 (t0 : Nat)) v13 v' v15 v16 v17 v18 v19 v20 v21 v22 v23 v24 v25 v26 v27 v28 v29 v30 v31 v32 v33 v34 v35 v36 v37 v38 v39 v40 v41 v42 v43 v44 v45 v46 v47 v48 v49 v50 v51 v52 v53 v54 v55 v56 v57 v58 v59 v60 v61 v62 v63 v64 v65 v66 v67 v68 v69 v70 v71 v72 v73 v74 v75 v76 v77 v78 v79 v80 v81 v82 v83 v84 v85 v86 v87 v88 v89 v90 v91 v92 v93 v94 v95 v96 v97 v98 v99 v100 v101 v102 v103 v104 v105 v106 v107 v108 v109 v110 v111 v112 v113 v114 v115 v116 v117 v118 v119 v120 v121 v122 v123 v124 v125 v126 v127 v128 v129 v130 v131 v132 v133 v134 v135 v136 v137 v138) W2) := fun hc hn ht W1 W2 v' hb1 hb2 hr => by
    intro v0 v1 v5 v6 v7 v9 v11 v13 v15 v16 v17 v18 v19 v20 v21 v22 v23 v24 v25 v26 v27 v28 v29 v30 v31 v32 v33 v34 v35 v36 v37 v38 v39 v40 v41 v42 v43 v44 v45 v46 v47 v48 v49 v50 v51 v52 v53 v54 v55 v56 v57 v58 v59 v60 v61 v62 v63 v64 v65 v66 v67 v68 v69 v70 v71 v72 v73 v74 v75 v76 v77 v78 v79 v80 v81 v82 v83 v84 v85 v86 v87 v88 v89 v90 v91 v92 v93 v94 v95 v96 v97 v98 v99 v100 v101 v102 v103 v104 v105 v106 v107 v108 v109 v110 v111 v112 v113 v114 v115 v116 v117 v118 v119 v120 v121 v122 v123 v124 v125 v126 v127 v128 v129 v130 v131 v132 v133 v134 v135 v136 v137 v138
    have e : gyL a l last pn MA n0 f0 t0 = lnL a l last pn (fun i => MA (1 + i)) (t0 - 1) [cpG a (MA 0) l.x] := by unfold gyL; rw [hc]; rfl
    rw [e] at hfin
    have hb := hb1.trans (hb2.mono hb1.size)
    have hx : ∀ k, v'.ownBlock = some k → W.heap.size ≤ k := fun k hk => Nat.le_trans hb1.size (hr.lt k hk).1
    have l1 := hpb.lt
    have l2 := hlb.lt
    have l3 := hR.lt hn
    have hP : PS w0 a l Pb Lb W1.heap.size v' [cpG a (MA 0) l.x] W2 := ⟨hlow.trans (hb.mono hlow.size), hpb.below hb hpb.lt, ⟨(hb.block _ hlb.lt).trans hlb.row⟩, hr, ⟨Nat.le_trans hlow.size hb1.size, hb2.size⟩, fun k hk => by have := hx k hk; exact ⟨by omega, by omega⟩⟩
    exact place_a a l w0 Pb Lb g n0 cap0 1 t0 W1.heap.size MA last v' [cpG a (MA 0) l.x] av Cq pn hpart hA0 hav hcap hn0 (by simp) (by omega) ht0 hM hCq hal hlx hlw W2 hP (hR.below hb (fun h => hR.lt h)) (fun h => ⟨(hg h).1, (hg h).2.1, (hg h).2.2, fun e => by have := hx g e; omega⟩) RR (fun v2 W3 h1 h2 => hfin _ v2 W3 (Nat.le_trans hlow.size hb1.size) h1 h2) v0 v1 v5 v6 v7 v9 v11 v13 v15 v16 v17 v18 v19 v20 v21 v22 v23 v24 v25 v26 v27 v28 v29 v30 v31 v32 v33 v34 v35 v36 v37 v38 v39 v40 v41 v42 v43 v44 v45 v46 v47 v48 v49 v50 v51 v52 v53 v54 v55 v56 v57 v58 v59 v60 v61 v62 v63 v64 v65 v66 v67 v68 v69 v70 v71 v72 v73 v74 v75 v76 v77 v78 v79 v80 v81 v82 v83 v84 v85 v86 v87 v88 v89 v90 v91 v92 v93 v94 v95 v96 v97 v98 v99 v100 v101 v102 v103 v104 v105 v106 v107 v108 v109 v110 v111 v112 v113 v114 v115 v116 v117 v118 v119 v120 v121 v122 v123 v124 v125 v126 v127 v128 v129 v130 v131 v132 v133 v134 v135 v136 v137 v138
  have hcs : Hid (∀ W', 0 < n0 → Below W.heap.size W W' → CS a l (MA 0) Pb Lb g W') := fun W' hn hb => ⟨hpb.below hb hpb.lt, ⟨(hb.block _ hlb.lt).trans hlb.row⟩, ((hR.below hb (fun h => hR.lt h)).part (s := 0) (n := 1) (by omega)).congr (fun i hi => by rw [show i = 0 by omega])⟩
  have hcp : Hid (0 < n0 → ∀ W', CS a l (MA 0) Pb Lb g W' → Calls Tryz.prog 25 #[.agg (paC a), .agg #[.int .i64 (MA 0).f, .int .i64 (MA 0).t, .int .i64 (MA 0).k, .int .i64 (MA 0).s, .int .i64 (MA 0).w, .int .i64 (MA 0).q], .int .i64 l.x] W' fun e w' => e = .returned (.agg (glL (cpG a (MA 0) l.x)).toArray) ∧ Below W'.heap.size W' w') := fun hn W' _ => capital_any a (hn1 hn) hG.p0 h14 (MA 0) l.x hlx W'
  clear hpart hA0 hM hCq hfin hR
  have hpr := hpb
  by_cases h1 : f0 = 0
  · have h1' : ((f0 : Int) == 0) = true := by simpa using h1
    by_cases h2 : 0 < t0
    · have h2' : (0 : Int) < (t0 : Nat) := by omega
      have hn : 0 < n0 := by omega
      obtain rfl := hav hn
      cases hcb : capB a n0 (MA 0).k
      · have hce : cpB a n0 f0 t0 (MA 0).k = false := by unfold cpB; rw [hcb]; simp
        rw [hcb] at hcapc
        have hgo := hno.out hce
        clear hno hyes hcs hcp hcb hce
        replace hgo : Hid (∀ W', Below W.heap.size W W' → ∀ v0 v1 v5 v6 v7 v9 v11 v13 v15 v16 v17 v18 v19 v20 v21 v22 v23 v24 v25 v26 v27 v28 v29 v30 v31 v32 v33 v34 v35 v36 v37 v38 v39 v40 v41 v42 v43 v44 v45 v46 v47 v48 v49 v50 v51 v52 v53 v54 v55 v56 v57 v58 v59 v60 v61 v62 v63 v64 v65 v66 v67 v68 v69 v70 v71 v72 v73 v74 v75 v76 v77 v78 v79 v80 v81 v82 v83 v84 v85 v86 v87 v88 v89 v90 v91 v92 v93 v94 v95 v96 v97 v98 v99 v100 v101 v102 v103 v104 v105 v106 v107 v108 v109 v110 v111 v112 v113 v114 v115 v116 v117 v118 v119 v120 v121 v122 v123 v124 v125 v126 v127 v128 v129 v130 v131 v132 v133 v134 v135 v136 v137 v138 : Value, rest12.wp Tryz.prog (bodyPost Tryz.prog Tryz.f8 RR) (fr8 v0 v1 (.bool last) (.pointer (some ⟨Pb, 0, none⟩)) (.pointer (some ⟨Lb, 0, none⟩)) v5 v6 v7 (.slice (some ⟨g, 0, none⟩) n0 cap0) v9 (.int .i64 (f0 : Nat)) v11 (.int .i64 (t0 : Nat)) v13 (.slice none 0 0) v15 v16 v17 v18 v19 v20 v21 v22 v23 v24 v25 v26 v27 v28 v29 v30 v31 v32 v33 v34 v35 v36 v37 v38 v39 v40 v41 v42 v43 v44 v45 v46 v47 v48 v49 v50 v51 v52 v53 v54 v55 v56 v57 v58 v59 v60 v61 v62 v63 v64 v65 v66 v67 v68 v69 v70 v71 v72 v73 v74 v75 v76 v77 v78 v79 v80 v81 v82 v83 v84 v85 v86 v87 v88 v89 v90 v91 v92 v93 v94 v95 v96 v97 v98 v99 v100 v101 v102 v103 v104 v105 v106 v107 v108 v109 v110 v111 v112 v113 v114 v115 v116 v117 v118 v119 v120 v121 v122 v123 v124 v125 v126 v127 v128 v129 v130 v131 v132 v133 v134 v135 v136 v137 v138) W') := hgo
        clear h1
        unfold rest8 fr8
        unfold fr8 at hgo
        go_wp2_with (first | (refine wpList_load_want 27 _ rfl rfl Pb rfl 27 _ (0, 0) _ hpr.row Tryz.underlying27 rfl (info34 a) ?_) | (go_at_call 24; refine (hcapc.out _ (Below.refl _ _)).mono ?_; rintro e W2 ⟨rfl, hb2⟩; clear hcapc))
        exact hgo.out _ hb2 _ _ _ _ _ _ _ _ _ _ _ _ _ _ _ _ _ _ _ _ _ _ _ _ _ _ _ _ _ _ _ _ _ _ _ _ _ _ _ _ _ _ _ _ _ _ _ _ _ _ _ _ _ _ _ _ _ _ _ _ _ _ _ _ _ _ _ _ _ _ _ _ _ _ _ _ _ _ _ _ _ _ _ _ _ _ _ _ _ _ _ _ _ _ _ _ _ _ _ _ _ _ _ _ _ _ _ _ _ _ _ _ _ _ _ _ _ _ _ _ _ _ _ _ _ _ _ _ _ _ _ _
      · have hce : cpB a n0 f0 t0 (MA 0).k = true := by unfold cpB; rw [hcb]; simp [h1, h2]
        rw [hcb] at hcapc
        have hgo := hyes.out hce hn h2
        clear hno hyes hcb hce
        replace hgo : Hid (∀ W1 W2 v', Below W.heap.size W W1 → Below W1.heap.size W1 W2 → W2.ownsRow W1.heap.size 41 4 v' [cpG a (MA 0) l.x].length ([cpG a (MA 0) l.x].flatMap glL) → ∀ v0 v1 v5 v6 v7 v9 v11 v13 v15 v16 v17 v18 v19 v20 v21 v22 v23 v24 v25 v26 v27 v28 v29 v30 v31 v32 v33 v34 v35 v36 v37 v38 v39 v40 v41 v42 v43 v44 v45 v46 v47 v48 v49 v50 v51 v52 v53 v54 v55 v56 v57 v58 v59 v60 v61 v62 v63 v64 v65 v66 v67 v68 v69 v70 v71 v72 v73 v74 v75 v76 v77 v78 v79 v80 v81 v82 v83 v84 v85 v86 v87 v88 v89 v90 v91 v92 v93 v94 v95 v96 v97 v98 v99 v100 v101 v102 v103 v104 v105 v106 v107 v108 v109 v110 v111 v112 v113 v114 v115 v116 v117 v118 v119 v120 v121 v122 v123 v124 v125 v126 v127 v128 v129 v130 v131 v132 v133 v134 v135 v136 v137 v138 : Value, rest12.wp Tryz.prog (bodyPost Tryz.prog Tryz.f8 RR) (fr8 v0 v1 (.bool last) (.pointer (some ⟨Pb, 0, none⟩)) (.pointer (some ⟨Lb, 0, none⟩)) v5 v6 v7 (.slice (some ⟨g, 0, none⟩) n0 cap0) v9 (.int .i64 (1 : Nat)) v11 (.int .i64 (t0 : Nat)) v13 v' v15 v16 v17 v18 v19 v20 v21 v22 v23 v24 v25 v26 v27 v28 v29 v30 v31 v32 v33 v34 v35 v36 v37 v38 v39 v40 v41 v42 v43 v44 v45 v46 v47 v48 v49 v50 v51 v52 v53 v54 v55 v56 v57 v58 v59 v60 v61 v62 v63 v64 v65 v66 v67 v68 v69 v70 v71 v72 v73 v74 v75 v76 v77 v78 v79 v80 v81 v82 v83 v84 v85 v86 v87 v88 v89 v90 v91 v92 v93 v94 v95 v96 v97 v98 v99 v100 v101 v102 v103 v104 v105 v106 v107 v108 v109 v110 v111 v112 v113 v114 v115 v116 v117 v118 v119 v120 v121 v122 v123 v124 v125 v126 v127 v128 v129 v130 v131 v132 v133 v134 v135 v136 v137 v138) W2) := hgo
        clear h1
        have hn' : (0 : Int) < (n0 : Nat) := by omega
        have hnz : Hid (¬ n0 = 0) := (by omega : ¬ n0 = 0)
        unfold rest8 fr8
        go_wp2_with (first | (refine wpList_load_want 27 _ rfl rfl Pb rfl 27 _ (0, 0) _ hpr.row Tryz.underlying27 rfl (info34 a) ?_) | (go_at_call 24; refine (hcapc.out _ (Below.refl _ _)).mono ?_; rintro e W2 ⟨rfl, hb2⟩; clear hcapc))
        refine pl_r10 _ (fun _ _ _ _ _ h => h) _ _ a l (MA 0) Pb Lb g n0 cap0 W2 (hcs.out _ hn (hb2.trans ((below_drew W2).mono hb2.size))) hn' hnz.out (fun W' hW' => hcp.out hn W' hW') ?_
        intro vv v' w1 w2 hb3 hb4 hr4
        have hgo2 : Hid (∀ v0 v1 v5 v6 v7 v9 v11 v13 v15 v16 v17 v18 v19 v20 v21 v22 v23 v24 v25 v26 v27 v28 v29 v30 v31 v32 v33 v34 v35 v36 v37 v38 v39 v40 v41 v42 v43 v44 v45 v46 v47 v48 v49 v50 v51 v52 v53 v54 v55 v56 v57 v58 v59 v60 v61 v62 v63 v64 v65 v66 v67 v68 v69 v70 v71 v72 v73 v74 v75 v76 v77 v78 v79 v80 v81 v82 v83 v84 v85 v86 v87 v88 v89 v90 v91 v92 v93 v94 v95 v96 v97 v98 v99 v100 v101 v102 v103 v104 v105 v106 v107 v108 v109 v110 v111 v112 v113 v114 v115 v116 v117 v118 v119 v120 v121 v122 v123 v124 v125 v126 v127 v128 v129 v130 v131 v132 v133 v134 v135 v136 v137 v138 : Value, rest12.wp Tryz.prog (bodyPost Tryz.prog Tryz.f8 RR) (fr8 v0 v1 (.bool last) (.pointer (some ⟨Pb, 0, none⟩)) (.pointer (some ⟨Lb, 0, none⟩)) v5 v6 v7 (.slice (some ⟨g, 0, none⟩) n0 cap0) v9 (.int .i64 (1 : Nat)) v11 (.int .i64 (t0 : Nat)) v13 v' v15 v16 v17 v18 v19 v20 v21 v22 v23 v24 v25 v26 v27 v28 v29 v30 v31 v32 v33 v34 v35 v36 v37 v38 v39 v40 v41 v42 v43 v44 v45 v46 v47 v48 v49 v50 v51 v52 v53 v54 v55 v56 v57 v58 v59 v60 v61 v62 v63 v64 v65 v66 v67 v68 v69 v70 v71 v72 v73 v74 v75 v76 v77 v78 v79 v80 v81 v82 v83 v84 v85 v86 v87 v88 v89 v90 v91 v92 v93 v94 v95 v96 v97 v98 v99 v100 v101 v102 v103 v104 v105 v106 v107 v108 v109 v110 v111 v112 v113 v114 v115 v116 v117 v118 v119 v120 v121 v122 v123 v124 v125 v126 v127 v128 v129 v130 v131 v132 v133 v134 v135 v136 v137 v138) w2) := hgo.out w1 w2 v' (hb2.trans (hb3.mono hb2.size)) hb4 hr4
        clear hgo hcs hcp hb3 hb4 hr4 hb2
        unfold fr8
        unfold fr8 at hgo2
        go_wp2_with fail
        exact hgo2.out _ _ _ _ _ _ _ _ _ _ _ _ _ _ _ _ _ _ _ _ _ _ _ _ _ _ _ _ _ _ _ _ _ _ _ _ _ _ _ _ _ _ _ _ _ _ _ _ _ _ _ _ _ _ _ _ _ _ _ _ _ _ _ _ _ _ _ _ _ _ _ _ _ _ _ _ _ _ _ _ _ _ _ _ _ _ _ _ _ _ _ _ _ _ _ _ _ _ _ _ _ _ _ _ _ _ _ _ _ _ _ _ _ _ _ _ _ _ _ _ _ _ _ _ _ _ _ _ _ _ _ _
    · have h2' : ¬ (0 : Int) < (t0 : Nat) := by omega
      have hce : cpB a n0 f0 t0 (MA 0).k = false := by unfold cpB; simp [h2]
      have hgo := hno.out hce
      clear hno hyes hcs hcp hce hcapc
      replace hgo : Hid (∀ W', Below W.heap.size W W' → ∀ v0 v1 v5 v6 v7 v9 v11 v13 v15 v16 v17 v18 v19 v20 v21 v22 v23 v24 v25 v26 v27 v28 v29 v30 v31 v32 v33 v34 v35 v36 v37 v38 v39 v40 v41 v42 v43 v44 v45 v46 v47 v48 v49 v50 v51 v52 v53 v54 v55 v56 v57 v58 v59 v60 v61 v62 v63 v64 v65 v66 v67 v68 v69 v70 v71 v72 v73 v74 v75 v76 v77 v78 v79 v80 v81 v82 v83 v84 v85 v86 v87 v88 v89 v90 v91 v92 v93 v94 v95 v96 v97 v98 v99 v100 v101 v102 v103 v104 v105 v106 v107 v108 v109 v110 v111 v112 v113 v114 v115 v116 v117 v118 v119 v120 v121 v122 v123 v124 v125 v126 v127 v128 v129 v130 v131 v132 v133 v134 v135 v136 v137 v138 : Value, rest12.wp Tryz.prog (bodyPost Tryz.prog Tryz.f8 RR) (fr8 v0 v1 (.bool last) (.pointer (some ⟨Pb, 0, none⟩)) (.pointer (some ⟨Lb, 0, none⟩)) v5 v6 v7 (.slice av n0 cap0) v9 (.int .i64 (f0 : Nat)) v11 (.int .i64 (t0 : Nat)) v13 (.slice none 0 0) v15 v16 v17 v18 v19 v20 v21 v22 v23 v24 v25 v26 v27 v28 v29 v30 v31 v32 v33 v34 v35 v36 v37 v38 v39 v40 v41 v42 v43 v44 v45 v46 v47 v48 v49 v50 v51 v52 v53 v54 v55 v56 v57 v58 v59 v60 v61 v62 v63 v64 v65 v66 v67 v68 v69 v70 v71 v72 v73 v74 v75 v76 v77 v78 v79 v80 v81 v82 v83 v84 v85 v86 v87 v88 v89 v90 v91 v92 v93 v94 v95 v96 v97 v98 v99 v100 v101 v102 v103 v104 v105 v106 v107 v108 v109 v110 v111 v112 v113 v114 v115 v116 v117 v118 v119 v120 v121 v122 v123 v124 v125 v126 v127 v128 v129 v130 v131 v132 v133 v134 v135 v136 v137 v138) W') := hgo
      clear h1
      unfold rest8 fr8
      unfold fr8 at hgo
      go_wp2_with fail
      exact hgo.out _ (Below.refl _ _) _ _ _ _ _ _ _ _ _ _ _ _ _ _ _ _ _ _ _ _ _ _ _ _ _ _ _ _ _ _ _ _ _ _ _ _ _ _ _ _ _ _ _ _ _ _ _ _ _ _ _ _ _ _ _ _ _ _ _ _ _ _ _ _ _ _ _ _ _ _ _ _ _ _ _ _ _ _ _ _ _ _ _ _ _ _ _ _ _ _ _ _ _ _ _ _ _ _ _ _ _ _ _ _ _ _ _ _ _ _ _ _ _ _ _ _ _ _ _ _ _ _ _ _ _ _ _ _ _ _ _ _
  · have h1' : ((f0 : Int) == 0) = false := by simpa using h1
    have hce : cpB a n0 f0 t0 (MA 0).k = false := by unfold cpB; simp [h1]
    have hgo := hno.out hce
    clear hno hyes hcs hcp hce hcapc
    replace hgo : Hid (∀ W', Below W.heap.size W W' → ∀ v0 v1 v5 v6 v7 v9 v11 v13 v15 v16 v17 v18 v19 v20 v21 v22 v23 v24 v25 v26 v27 v28 v29 v30 v31 v32 v33 v34 v35 v36 v37 v38 v39 v40 v41 v42 v43 v44 v45 v46 v47 v48 v49 v50 v51 v52 v53 v54 v55 v56 v57 v58 v59 v60 v61 v62 v63 v64 v65 v66 v67 v68 v69 v70 v71 v72 v73 v74 v75 v76 v77 v78 v79 v80 v81 v82 v83 v84 v85 v86 v87 v88 v89 v90 v91 v92 v93 v94 v95 v96 v97 v98 v99 v100 v101 v102 v103 v104 v105 v106 v107 v108 v109 v110 v111 v112 v113 v114 v115 v116 v117 v118 v119 v120 v121 v122 v123 v124 v125 v126 v127 v128 v129 v130 v131 v132 v133 v134 v135 v136 v137 v138 : Value, rest12.wp Tryz.prog (bodyPost Tryz.prog Tryz.f8 RR) (fr8 v0 v1 (.bool last) (.pointer (some ⟨Pb, 0, none⟩)) (.pointer (some ⟨Lb, 0, none⟩)) v5 v6 v7 (.slice av n0 cap0) v9 (.int .i64 (f0 : Nat)) v11 (.int .i64 (t0 : Nat)) v13 (.slice none 0 0) v15 v16 v17 v18 v19 v20 v21 v22 v23 v24 v25 v26 v27 v28 v29 v30 v31 v32 v33 v34 v35 v36 v37 v38 v39 v40 v41 v42 v43 v44 v45 v46 v47 v48 v49 v50 v51 v52 v53 v54 v55 v56 v57 v58 v59 v60 v61 v62 v63 v64 v65 v66 v67 v68 v69 v70 v71 v72 v73 v74 v75 v76 v77 v78 v79 v80 v81 v82 v83 v84 v85 v86 v87 v88 v89 v90 v91 v92 v93 v94 v95 v96 v97 v98 v99 v100 v101 v102 v103 v104 v105 v106 v107 v108 v109 v110 v111 v112 v113 v114 v115 v116 v117 v118 v119 v120 v121 v122 v123 v124 v125 v126 v127 v128 v129 v130 v131 v132 v133 v134 v135 v136 v137 v138) W') := hgo
    clear h1
    unfold rest8 fr8
    unfold fr8 at hgo
    go_wp2_with fail
    exact hgo.out _ (Below.refl _ _) _ _ _ _ _ _ _ _ _ _ _ _ _ _ _ _ _ _ _ _ _ _ _ _ _ _ _ _ _ _ _ _ _ _ _ _ _ _ _ _ _ _ _ _ _ _ _ _ _ _ _ _ _ _ _ _ _ _ _ _ _ _ _ _ _ _ _ _ _ _ _ _ _ _ _ _ _ _ _ _ _ _ _ _ _ _ _ _ _ _ _ _ _ _ _ _ _ _ _ _ _ _ _ _ _ _ _ _ _ _ _ _ _ _ _ _ _ _ _ _ _ _ _ _ _ _ _ _ _ _ _ _
end Go.Proofs.YtbdpghjegachaaaGreatDoor

namespace Go.Proofs.YtbdpghjegachaaaGreatDoor
open Go.RowKit Go.Shelf

set_option maxRecDepth 100000 in
theorem isNaN_any (n : Int) (w : World) : Calls Tryz.prog 97 #[.int .i64 n] w fun e w' => e = .returned (.bool false) ∧ w' = w := by
  go_enter Tryz.func97, Tryz.ntmps97
  go_wp2
  go_ret
  exact ⟨rfl, rfl⟩
def cmpI (x y : Int) : Int := if x < y then -1 else if y < x then 1 else 0
theorem cmp_lt {x y : Int} (h : x < y) : cmpI x y = -1 := if_pos h
theorem cmp_ge {x y : Int} (h : y ≤ x) : 0 ≤ cmpI x y := by
  unfold cmpI
  rw [if_neg (by omega)]
  split <;> omega
theorem cmp_eq (x y : Int) : (cmpI x y == 0) = (x == y) := by
  unfold cmpI
  by_cases h : x < y
  · rw [if_pos h, show (x == y) = false by simpa using (by omega : x ≠ y)]; rfl
  · rw [if_neg h]
    by_cases h2 : y < x
    · rw [if_pos h2, show (x == y) = false by simpa using (by omega : x ≠ y)]; rfl
    · rw [if_neg h2, show (x == y) = true by simpa using (by omega : x = y)]; rfl
set_option maxRecDepth 100000 in
theorem compare_any (x y : Int) (w : World) : Calls Tryz.prog 53 #[.int .i64 x, .int .i64 y] w fun e w' => e = .returned (.int .i64 (cmpI x y)) ∧ w' = w := by
  have hn := isNaN_any
  by_cases h1 : x < y
  · rw [cmp_lt h1]
    go_enter Tryz.func53, Tryz.ntmps53
    go_wp2_with (go_at_call 97; refine (hn _ _).mono ?_; rintro e w' ⟨rfl, rfl⟩)
    go_ret
    exact ⟨rfl, rfl⟩
  by_cases h2 : y < x
  · have hc : cmpI x y = 1 := by unfold cmpI; rw [if_neg h1, if_pos h2]
    rw [hc]
    go_enter Tryz.func53, Tryz.ntmps53
    go_wp2_with (go_at_call 97; refine (hn _ _).mono ?_; rintro e w' ⟨rfl, rfl⟩)
    go_ret
    exact ⟨rfl, rfl⟩
  · have hc : cmpI x y = 0 := by unfold cmpI; rw [if_neg h1, if_neg h2]
    rw [hc]
    go_enter Tryz.func53, Tryz.ntmps53
    go_wp2_with (go_at_call 97; refine (hn _ _).mono ?_; rintro e w' ⟨rfl, rfl⟩)
    go_ret
    exact ⟨rfl, rfl⟩
set_option maxRecDepth 100000 in
theorem close_any (m : Ms) (t : Int) (w : World) : Calls Tryz.prog 52 #[.agg #[.int .i64 m.f, .int .i64 m.t, .int .i64 m.k, .int .i64 m.s, .int .i64 m.w, .int .i64 m.q], .int .i64 t] w fun e w' => e = .returned (.int .i64 (cmpI m.f t)) ∧ Below w.heap.size w w' := by
  obtain ⟨x0, x1, x2, x3, x4, x5⟩ := m
  have hc := compare_any x0 t
  go_enter Tryz.func52, Tryz.ntmps52
  go_wp2_with (go_at_call 53; refine (hc _).mono ?_; rintro e w' ⟨rfl, rfl⟩)
  go_ret
  exact ⟨rfl, (Below.refl _ w).alloc (Nat.le_refl _) _⟩
/-- How many of n numbers that rise are below another. -/
def lowN (F : Nat → Int) (t : Int) : Nat → Nat
  | 0 => 0
  | n + 1 => if F n < t then n + 1 else lowN F t n
theorem lowN_is {F : Nat → Int} {t : Int} : ∀ {n k : Nat}, k ≤ n → (∀ j, j < k → F j < t) → (∀ j, k ≤ j → j < n → t ≤ F j) → lowN F t n = k
  | 0, k, h, _, _ => by show 0 = k; omega
  | n + 1, k, h, h1, h2 => by
    unfold lowN
    by_cases e : k = n + 1
    · rw [if_pos (h1 n (by omega)), e]
    · have := h2 n (by omega) (by omega)
      rw [if_neg (by omega)]
      exact lowN_is (by omega) h1 (fun j a b => h2 j a (by omega))
theorem lowN_le (F : Nat → Int) (t : Int) : ∀ n, lowN F t n ≤ n
  | 0 => Nat.le_refl _
  | n + 1 => by have := lowN_le F t n; unfold lowN; split <;> omega
def fndB (F : Nat → Int) (t : Int) (n : Nat) : Bool := decide (lowN F t n < n) && (F (lowN F t n) == t)
set_option maxRecDepth 100000 in
set_option maxHeartbeats 2000000 in
theorem msearch_any (w : World) (g n cap : Nat) (M : Nat → Ms) (t : Int) (hr : ∀ j i, j < n → i < j → (M i).f < (M j).f) (hn : n ≤ 4096) (_hcap : n ≤ cap) (a : Option Addr) (ha : 0 < n → a = some ⟨g, 0, none⟩) (hR : RF w g 0 n M) :
    Calls Tryz.prog 51 #[.slice a n cap, .int .i64 t, .func (.func 52) #[] #[]] w fun e w' => e = .returned (.tuple #[.int .i64 (lowN (fun i => (M i).f) t n : Nat), .bool (fndB (fun i => (M i).f) t n)]) ∧ Below w.heap.size w w' := by
  have hn' : (n : Int) ≤ 4096 := by omega
  have hr' : Hid (∀ j i, j < n → i < j → (M i).f < (M j).f) := hr
  have hcl : Hid (∀ W k, k < n → Below w.heap.size w W → W.cell? ⟨g, k * 6, none⟩ = some (.int .i64 (M k).f) ∧ W.cell? ⟨g, k * 6 + 1, none⟩ = some (.int .i64 (M k).t) ∧ W.cell? ⟨g, k * 6 + 2, none⟩ = some (.int .i64 (M k).k) ∧ W.cell? ⟨g, k * 6 + 3, none⟩ = some (.int .i64 (M k).s) ∧ W.cell? ⟨g, k * 6 + 4, none⟩ = some (.int .i64 (M k).w) ∧ W.cell? ⟨g, k * 6 + 5, none⟩ = some (.int .i64 (M k).q)) := fun W k hk hb => by
    have := (hR.below hb (fun h => hR.lt h)).c hk
    rw [show 0 + k * 6 = k * 6 by omega] at this
    exact this
  have hend : Hid (∀ p, p ≤ n → (∀ j, j < p → (M j).f < t) → (∀ j, p ≤ j → j < n → t ≤ (M j).f) → lowN (fun i => (M i).f) t n = p ∧ fndB (fun i => (M i).f) t n = (decide (p < n) && ((M p).f == t))) := fun p hp h1 h2 => by
    have e := lowN_is (F := fun i => (M i).f) hp h1 h2
    unfold fndB
    rw [e]
    exact ⟨rfl, rfl⟩
  clear hr hR
  generalize lowN (fun i => (M i).f) t n = lo at *
  generalize fndB (fun i => (M i).f) t n = fb at *
  go_enter Tryz.func51, Tryz.ntmps51
  go_wp2_with fail
  go_loopw [9, 10] (fun i j wr => ∃ (p q : Nat), p ≤ q ∧ q ≤ n ∧ i = .int .i64 p ∧ j = .int .i64 q ∧ Below w.heap.size w wr ∧ Hid (∀ j, j < p → (M j).f < t) ∧ Hid (∀ j, q ≤ j → j < n → t ≤ (M j).f)) (fun i j _ => (intOf j).toNat - (intOf i).toNat)
  case atStart => exact ⟨0, n, by omega, by omega, rfl, rfl, Below.refl _ _, fun j hj => by omega, fun j hj h => by omega⟩
  case round =>
    obtain ⟨p, q, hpq, hq, rfl, rfl, hb, hlo, hhi⟩ := hrel
    by_cases hlt : p < q
    · obtain rfl := ha (by omega)
      have hlt' : (p : Int) < q := by omega
      obtain ⟨m, hm, hm1, hm2⟩ : ∃ m : Nat, ((p : Int) + q) / 2 = m ∧ p ≤ m ∧ m < q := ⟨(p + q) / 2, by omega, by omega, by omega⟩
      have hml : m < n := by omega
      have hml' : (m : Int) < n := by omega
      obtain ⟨m0, m1, m2, m3, m4, m5⟩ := hcl.out wr m hml hb
      have hcall := close_any (M m) t
      by_cases hx : (M m).f < t
      · have hlo' : Hid (∀ j, j < m + 1 → (M j).f < t) := fun j hjm => by
          by_cases e : j = m
          · subst e; exact hx
          · exact Int.lt_trans (hr'.out m j hml (by omega)) hx
        rw [cmp_lt hx] at hcall
        clear hx hlo hr' hcl
        generalize M m = mm at *
        obtain ⟨x0, x1, x2, x3, x4, x5⟩ := mm
        go_wp2_with (go_at_call 52; refine (hcall _).mono ?_; rintro e w' ⟨rfl, hb2⟩; have hB := hb.trans (hb2.mono hb.size))
        exact ⟨⟨m + 1, q, by omega, by omega, by simp, rfl, hB, hlo', hhi⟩, by simp [intOf]; omega⟩
      · have hhi' : Hid (∀ j, m ≤ j → j < n → t ≤ (M j).f) := fun j hjm hj => by
          by_cases e : j = m
          · subst e; omega
          · have := hr'.out j m hj (by omega); omega
        obtain ⟨z, hz, hz0⟩ : ∃ z, cmpI (M m).f t = z ∧ 0 ≤ z := ⟨_, rfl, cmp_ge (by omega)⟩
        rw [hz] at hcall
        clear hx hhi hr' hz hcl
        generalize M m = mm at *
        obtain ⟨x0, x1, x2, x3, x4, x5⟩ := mm
        have hz1 : ¬ z < 0 := by omega
        go_wp2_with (go_at_call 52; refine (hcall _).mono ?_; rintro e w' ⟨rfl, hb2⟩; have hB := hb.trans (hb2.mono hb.size))
        exact ⟨⟨p, m, by omega, by omega, rfl, rfl, hB, hlo, hhi'⟩, by simp [intOf]; omega⟩
    · have hge : ¬ (p : Int) < q := by omega
      obtain ⟨e1, e2⟩ := hend.out p (by omega) hlo.out (fun j hj h => hhi.out j (by omega) h)
      replace e1 := e1.symm
      subst e1
      by_cases hpl : p < n
      · obtain rfl := ha (by omega)
        have hpl' : (p : Int) < n := by omega
        obtain ⟨m0, m1, m2, m3, m4, m5⟩ := hcl.out wr p hpl hb
        have hcall := close_any (M p) t
        have hce : (cmpI (M p).f t == 0) = fb := by rw [e2, cmp_eq]; simp [hpl]
        clear hr' hcl e2
        generalize cmpI (M p).f t = z at *
        generalize M p = mm at *
        obtain ⟨x0, x1, x2, x3, x4, x5⟩ := mm
        clear hlo hhi hend
        go_wp2_with (go_at_call 52; refine (hcall _).mono ?_; rintro e w' ⟨rfl, hb2⟩; have hB := hb.trans (hb2.mono hb.size))
        go_ret2
        exact ⟨rfl, hB⟩
      · have hpl' : ¬ (p : Int) < n := by omega
        have e3 : fb = false := by rw [e2]; simp [hpl]
        subst e3
        clear hr' hcl e2 hlo hhi hend
        go_wp2_with fail
        go_ret2
        exact ⟨rfl, hb⟩
set_option maxRecDepth 100000 in
theorem skeeps_any (x : Int) (w : World) : Calls Tryz.prog 23 #[.int .i64 x] w fun e w' => e = .returned (.bool (decide (0 ≤ x ∧ x ≤ 4095))) ∧ w' = w := by
  by_cases h1 : 0 ≤ x
  · by_cases h2 : x ≤ 4095
    · rw [show decide (0 ≤ x ∧ x ≤ 4095) = true by simp [h1, h2]]
      go_enter Tryz.func23, Tryz.ntmps23
      go_wp2_with fail
      go_ret
      exact ⟨rfl, rfl⟩
    · rw [show decide (0 ≤ x ∧ x ≤ 4095) = false by simp [h2]]
      go_enter Tryz.func23, Tryz.ntmps23
      go_wp2_with fail
      go_ret
      exact ⟨rfl, rfl⟩
  · rw [show decide (0 ≤ x ∧ x ≤ 4095) = false by simp [h1]]
    go_enter Tryz.func23, Tryz.ntmps23
    go_wp2_with fail
    go_ret
    exact ⟨rfl, rfl⟩
set_option maxRecDepth 100000 in
set_option maxHeartbeats 2000000 in
theorem ahead_any (p : Pa) (hsz : p.t.size ≤ 4096) (w : World) (g n cap : Nat) (M : Nat → Ms) (t : Int) (hr : ∀ j i, j < n → i < j → (M i).f < (M j).f) (hn : n ≤ 4096) (hcap : n ≤ cap) (a : Option Addr) (ha : 0 < n → a = some ⟨g, 0, none⟩) (hR : RF w g 0 n M) :
    Calls Tryz.prog 22 #[paV p, .slice a n cap, .int .i64 t] w fun e w' => e = .returned (.tuple #[.int .i64 (lowN (fun i => (M i).f) t n : Nat), .bool (fndB (fun i => (M i).f) t n || (t == p.t.size))]) ∧ Below w.heap.size w w' := by
  have hB := (Below.refl w.heap.size w).alloc (Nat.le_refl _) (Obj.cells (paC p) 27)
  have hP := PB.new w p
  have hs := msearch_any (w.alloc (.cells (paC p) 27)) g n cap M t hr hn hcap a ha (hR.below hB (fun h => hR.lt h))
  have hs1 : w.heap.size < (w.alloc (.cells (paC p) 27)).heap.size := by simp
  have hsi : (p.t.size : Int) ≤ 4096 := by omega
  clear hR hr ha
  generalize lowN (fun i => (M i).f) t n = lo at *
  generalize fndB (fun i => (M i).f) t n = fb at *
  unfold paV
  generalize hw1 : w.alloc (.cells (paC p) 27) = w1 at *
  go_enter Tryz.func22, Tryz.ntmps22
  go_wp2_with (go_at_call 51; refine hs.mono ?_; rintro e w2 ⟨rfl, hb2⟩)
  have hP2 := hP.below hb2 hs1
  have c0 := hP2.c0
  have hB2 := hB.trans (hb2.mono hB.size)
  clear hs hP hP2 hB hb2 hw1
  cases fb
  · go_quiet (fail)
    go_wp2_with fail
    go_ret2
    exact ⟨by simp, below_drewN hB2 _⟩
  · go_quiet (fail)
    go_wp2_with fail
    go_ret2
    exact ⟨by simp, below_drewN hB2 _⟩
end Go.Proofs.YtbdpghjegachaaaGreatDoor
