/-
  What is proved here: the statement that puts one paragraph behind others, in whatever order its operations come up.
-/
import Derived.Test.YtjagnidkjpmkcaaDoorEntries
import Derived.OrdersHeld
namespace Go.Proofs.YtjagnidkjpmkcaaDoor
open Go.RowKit Go.Shelf

theorem take_h {P : Program} {md : Region.Mode} {ops : Array Oper} {Q : Exit → Act → World → Prop} {S : World → Prop} {i : Nat} {oi : Oper} {v : Value} {fuel : Nat} {listed : Array Bool} {a : Act} {w : World} (a' : Act) (hi : ops[i]? = some oi)
    (hs : Region.noSelect ops = true) (hf : Region.free md ops listed i = true) (hr : (Region.ready md ops listed).contains i = true)
    (hQ : ∀ c x w, Q (.panic c) (x.put oi.dst v) w → Q (.panic c) x w) (hw : Region.wanted oi (yielded ops a.tmps) = true) (hy : ∀ w, S w → (execOp a.eval oi).run P w = .ok (.value v) w) (ha : a.put oi.dst v = a') (hS : S w)
    (h : wpAnyH P md ops Q S fuel (listed.setIfInBounds i true) a' w) : wpAnyH P md ops Q S (fuel + 1) listed a w :=
  wpAnyH_take hi hs hf hr hQ (Or.inl ⟨hw, hy⟩) hS (ha ▸ h)
theorem skip_h {P : Program} {md : Region.Mode} {ops : Array Oper} {Q : Exit → Act → World → Prop} {S : World → Prop} {i : Nat} {oi : Oper} {fuel : Nat} {listed : Array Bool} {a : Act} {w : World} (a' : Act) (hi : ops[i]? = some oi)
    (hs : Region.noSelect ops = true) (hf : Region.free md ops listed i = true) (hr : (Region.ready md ops listed).contains i = true)
    (hQ : ∀ c x w, Q (.panic c) (x.put oi.dst undef) w → Q (.panic c) x w) (hw : Region.wanted oi (yielded ops a.tmps) = false) (ha : a.put oi.dst undef = a') (hS : S w)
    (h : wpAnyH P md ops Q S fuel (listed.setIfInBounds i true) a' w) : wpAnyH P md ops Q S (fuel + 1) listed a w :=
  wpAnyH_take hi hs hf hr hQ (Or.inr ⟨hw, rfl⟩) hS (ha ▸ h)
theorem want_h {P : Program} {md : Region.Mode} {ops : Array Oper} {Q : Exit → Act → World → Prop} {S : World → Prop} {i : Nat} {oi : Oper} {fuel : Nat} {listed : Array Bool} {a : Act} {w : World} (hr : Region.ready md ops listed = [i]) (hi : ops[i]? = some oi)
    (hw : Region.wanted oi (yielded ops a.tmps) = true) (h : ∀ K : Act → World → Prop, (∀ a' w', S w' → wpAnyH P md ops Q S fuel (listed.setIfInBounds i true) a' w' → K a' w') → oi.wp P a w K Q) : wpAnyH P md ops Q S (fuel + 1) listed a w :=
  wpAnyH_all hr (by simp) fun j hj => by
    obtain rfl := List.mem_singleton.1 hj
    unfold wpOp
    simp only [hi, hw, if_true]
    exact Or.inl (h _ fun a' w' hS h' => ⟨hS, h'⟩)
theorem cast_h {P : Program} {md : Region.Mode} {ops : Array Oper} {Q : Exit → Act → World → Prop} {S : World → Prop} {fuel : Nat} {listed : Array Bool} {a : Act} {w : World} (a' : Act) (ha : a = a') (h : wpAnyH P md ops Q S fuel listed a' w) : wpAnyH P md ops Q S fuel listed a w := ha ▸ h

theorem two_h {P : Program} {md : Region.Mode} {ops : Array Oper} {Q : Exit → Act → World → Prop} {S : World → Prop} {i j : Nat} {oi oj : Oper} {fuel : Nat} {listed : Array Bool} {a : Act} {w : World} (hr : Region.ready md ops listed = [i, j]) (hi : ops[i]? = some oi) (hj : ops[j]? = some oj)
    (hw : Region.wanted oi (yielded ops a.tmps) = true) (hw' : Region.wanted oj (yielded ops a.tmps) = true) (h : ∀ K : Act → World → Prop, (∀ a' w', S w' → wpAnyH P md ops Q S fuel (listed.setIfInBounds i true) a' w' → K a' w') → oi.wp P a w K Q)
    (h' : ∀ K : Act → World → Prop, (∀ a' w', S w' → wpAnyH P md ops Q S fuel (listed.setIfInBounds j true) a' w' → K a' w') → oj.wp P a w K Q) : wpAnyH P md ops Q S (fuel + 1) listed a w :=
  wpAnyH_all hr (by simp) fun k hk => by
    rcases List.mem_cons.1 hk with rfl | hk
    · unfold wpOp
      simp only [hi, hw, if_true]
      exact Or.inl (h _ fun a' w' hS h' => ⟨hS, h'⟩)
    · obtain rfl := List.mem_singleton.1 hk
      unfold wpOp
      simp only [hj, hw', if_true]
      exact Or.inl (h' _ fun a' w' hS h' => ⟨hS, h'⟩)

theorem wp_append_any {P : Program} (w : World) {o : Oper} {a : Act} {K : Act → World → Prop} {Q : Exit → Act → World → Prop} (sl x : Operand) (t : TypeId)
    (ho : o.op = .call { callee := .builtin .append, args := #[sl, x], argTypes := #[t, t] })
    (base : Nat) (e : TypeId) (i : TypeInfo) (z : Value) (size bytes : Nat) (ht : P.underlying t = some (.slice e)) (hi : P.info? e = some i) (hz : i.zero = some z) (hsize : i.size = size) (hby : i.bytes = bytes) (hzs : z.cells.size = size) (hsz : 0 < size)
    (v : Value) (n : Nat) (xs : List Value) (hs : a.eval sl = v) (hown : w.ownsRow base e size v n xs) (m : Nat) (news : List Value) (u : Value) (hxe : a.eval x = u) (hx : Srcs w size u m news)
    (h63 : n + m ≤ maxLen) (hbytes : (n + m) * bytes ≤ 140737488355328) (hbase : base ≤ w.heap.size)
    (h : ∀ v' w', w'.ownsRow base e size v' (n + m) (xs ++ news) → w.grownBy w' v.ownBlock → K (a.put o.dst v') w') : o.wp P a w K Q := by
  obtain ⟨v', w', hr, h2, h3⟩ := run_append_any (P := P) w base t o.type e i z size bytes ht hi hz hsize hby hzs hsz v n xs hown u m news hx h63 hbytes hbase
  unfold Oper.wp execOp
  simp only [ho, resolve, invoke, builtin, Sem.run_bind, Sem.run_pure, Result.andThen_ok, List.map_toArray, List.map_cons, List.map_nil, hs, hxe, hr]
  exact h v' w' h2 h3

theorem srcs_one (W : World) (x y : Int) : Srcs (W.alloc (.cells #[.int .i64 x, .int .i64 y] 37)) 2 (.slice (some ⟨W.heap.size, 0, none⟩) 1 1) 1 [.int .i64 x, .int .i64 y] :=
  ⟨rfl, fun u hu => by simp at hu; rcases hu with rfl | rfl <;> rfl, .inr ⟨_, _, rfl, fun k u hy => by
    rw [addr_add0, Lib.cell_of_heap (heap_new W _)]
    simpa using hy⟩⟩
/-- What is appended lies in a block that stays. -/
theorem srcs_keep {W W' : World} {size m g : Nat} {news : List Value} {cp : Nat} (h : Srcs W size (.slice (some ⟨g, 0, none⟩) m cp) m news) (hb : W'.heap[g]? = W.heap[g]?) : Srcs W' size (.slice (some ⟨g, 0, none⟩) m cp) m news := by
  refine ⟨h.1, h.2.1, ?_⟩
  rcases h.2.2 with ⟨_, c, e⟩ | ⟨a, c, e, hc⟩
  · cases e
  · cases e
    refine .inr ⟨_, _, rfl, fun j u hj => ?_⟩
    have := hc j u hj
    rw [addr_add0] at this ⊢
    rw [← this]
    exact World.cell?_of_block (w := W) hb

def fr6 (v0 v1 v2 v3 v4 v5 v6 v7 v8 v9 v10 v11 v12 v13 v14 v15 v16 v17 v18 v19 v20 v21 v22 v23 v24 v25 v26 v27 v28 v29 v30 v31 v32 v33 v34 v35 v36 v37 v38 v39 v40 v41 v42 v43 v44 v45 v46 v47 v48 v49 v50 v51 v52 v53 v54 v55 v56 v57 v58 v59 v60 v61 v62 v63 v64 v65 v66 v67 v68 v69 v70 v71 v72 v73 v74 v75 v76 v77 v78 v79 v80 v81 v82 v83 v84 v85 v86 v87 v88 v89 v90 v91 v92 v93 v94 v95 v96 v97 v98 v99 v100 v101 v102 v103 v104 v105 v106 v107 v108 v109 v110 v111 v112 v113 v114 v115 v116 v117 v118 v119 v120 v121 v122 v123 v124 v125 v126 v127 v128 v129 v130 v131 v132 v133 v134 v135 v136 v137 v138 v139 v140 v141 : Value) : Act := { tmps := #[v0, v1, v2, v3, v4, v5, v6, v7, v8, v9, v10, v11, v12, v13, v14, v15, v16, v17, v18, v19, v20, v21, v22, v23, v24, v25, v26, v27, v28, v29, v30, v31, v32, v33, v34, v35, v36, v37, v38, v39, v40, v41, v42, v43, v44, v45, v46, v47, v48, v49, v50, v51, v52, v53, v54, v55, v56, v57, v58, v59, v60, v61, v62, v63, v64, v65, v66, v67, v68, v69, v70, v71, v72, v73, v74, v75, v76, v77, v78, v79, v80, v81, v82, v83, v84, v85, v86, v87, v88, v89, v90, v91, v92, v93, v94, v95, v96, v97, v98, v99, v100, v101, v102, v103, v104, v105, v106, v107, v108, v109, v110, v111, v112, v113, v114, v115, v116, v117, v118, v119, v120, v121, v122, v123, v124, v125, v126, v127, v128, v129, v130, v131, v132, v133, v134, v135, v136, v137, v138, v139, v140, v141], defers := [] }
def ops4 (ps : String) : Array Oper := #[{ dst := some 38, op := Op.buildSlice 28 0 #[], type := 28, pos := ps, after := #[], guard := none }, { dst := some 39, op := Op.move (Operand.tmp 0), type := 28, pos := ps, after := #[], guard := none }, { dst := some 40, op := Op.call { callee := Callee.builtin Builtin.append, args := #[Operand.tmp 38, Operand.tmp 39], argTypes := #[28, 28] }, type := 28, pos := ps, after := #[{ on := 0, ground := Ground.data }, { on := 1, ground := Ground.data }], guard := none }, { dst := some 41, op := Op.load 37 (Operand.tmp 3), type := 37, pos := ps, after := #[], guard := none }, { dst := some 42, op := Op.buildSlice 28 1 #[(0, Operand.tmp 41)], type := 28, pos := ps, after := #[{ on := 3, ground := Ground.data }], guard := none }, { dst := some 43, op := Op.call { callee := Callee.builtin Builtin.append, args := #[Operand.tmp 40, Operand.tmp 42], argTypes := #[28, 28] }, type := 28, pos := ps, after := #[{ on := 2, ground := Ground.data }, { on := 4, ground := Ground.data }, { on := 2, ground := Ground.chain }], guard := none }, { dst := some 6, op := Op.assign (Operand.tmp 43), type := 28, pos := ps, after := #[{ on := 5, ground := Ground.data }, { on := 5, ground := Ground.chain }, { on := 0, ground := Ground.phase }, { on := 1, ground := Ground.phase }, { on := 2, ground := Ground.phase }, { on := 3, ground := Ground.phase }, { on := 4, ground := Ground.phase }, { on := 5, ground := Ground.phase }], guard := none }]

set_option maxRecDepth 100000 in
set_option maxHeartbeats 2000000 in
theorem more_region (Q : Exit → Act → World → Prop) (hQ : ∀ c x (n : Nat) v w, Q (.panic c) (x.put (some n) v) w → Q (.panic c) x w) (id : Nat) (ps : String) {v1 v2 v4 v5 v6 v7 v8 v9 v10 v11 v12 v13 v14 v15 v16 v17 v18 v19 v20 v21 v22 v23 v24 v25 v26 v27 v28 v29 v30 v31 v32 v33 v34 v35 v36 v37 v38 v39 v40 v41 v42 v43 v44 v45 v46 v47 v48 v49 v50 v51 v52 v53 v54 v55 v56 v57 v58 v59 v60 v61 v62 v63 v64 v65 v66 v67 v68 v69 v70 v71 v72 v73 v74 v75 v76 v77 v78 v79 v80 v81 v82 v83 v84 v85 v86 v87 v88 v89 v90 v91 v92 v93 v94 v95 v96 v97 v98 v99 v100 v101 v102 v103 v104 v105 v106 v107 v108 v109 v110 v111 v112 v113 v114 v115 v116 v117 v118 v119 v120 v121 v122 v123 v124 v125 v126 v127 v128 v129 v130 v131 v132 v133 v134 v135 v136 v137 v138 v139 v140 v141 : Value}
    (a : Option Addr) (n cap X : Nat) (x y : Int) (ls : List En) (hn : n = ls.length) (hn1 : n ≤ 5000) (w0 : World) (hE : EnAt w0 (.slice a n cap) ls) (hX : w0.heap[X]? = some (.cells #[.int .i64 x, .int .i64 y] 37 (0, 0)))
    (hq : ∀ s38 s40 s42 v w', w'.ownsRow w0.heap.size 37 2 v (n + 1) (enC (ls ++ [(x, y)])) → Below w0.heap.size w0 w' → Q .normal (fr6 (.slice a n cap) v1 v2 (.pointer (some ⟨X, 0, none⟩)) v4 v5 v v7 v8 v9 v10 v11 v12 v13 v14 v15 v16 v17 v18 v19 v20 v21 v22 v23 v24 v25 v26 v27 v28 v29 v30 v31 v32 v33 v34 v35 v36 v37 s38 (.slice a n cap) s40 (.agg #[.int .i64 x, .int .i64 y]) s42 v v44 v45 v46 v47 v48 v49 v50 v51 v52 v53 v54 v55 v56 v57 v58 v59 v60 v61 v62 v63 v64 v65 v66 v67 v68 v69 v70 v71 v72 v73 v74 v75 v76 v77 v78 v79 v80 v81 v82 v83 v84 v85 v86 v87 v88 v89 v90 v91 v92 v93 v94 v95 v96 v97 v98 v99 v100 v101 v102 v103 v104 v105 v106 v107 v108 v109 v110 v111 v112 v113 v114 v115 v116 v117 v118 v119 v120 v121 v122 v123 v124 v125 v126 v127 v128 v129 v130 v131 v132 v133 v134 v135 v136 v137 v138 v139 v140 v141) w') :
    (Code.region id (ops4 ps) true).wp Tryd.prog Q (fr6 (.slice a n cap) v1 v2 (.pointer (some ⟨X, 0, none⟩)) v4 v5 v6 v7 v8 v9 v10 v11 v12 v13 v14 v15 v16 v17 v18 v19 v20 v21 v22 v23 v24 v25 v26 v27 v28 v29 v30 v31 v32 v33 v34 v35 v36 v37 v38 v39 v40 v41 v42 v43 v44 v45 v46 v47 v48 v49 v50 v51 v52 v53 v54 v55 v56 v57 v58 v59 v60 v61 v62 v63 v64 v65 v66 v67 v68 v69 v70 v71 v72 v73 v74 v75 v76 v77 v78 v79 v80 v81 v82 v83 v84 v85 v86 v87 v88 v89 v90 v91 v92 v93 v94 v95 v96 v97 v98 v99 v100 v101 v102 v103 v104 v105 v106 v107 v108 v109 v110 v111 v112 v113 v114 v115 v116 v117 v118 v119 v120 v121 v122 v123 v124 v125 v126 v127 v128 v129 v130 v131 v132 v133 v134 v135 v136 v137 v138 v139 v140 v141) w0 := by
  obtain ⟨i0, hi0, hz0, hz1, hz2⟩ := info_parts info37
  have hXl : X < w0.heap.size := (Array.getElem?_eq_some_iff.1 hX).1
  have hXc : ∀ w, Below w0.heap.size w0 w → w.cell? ⟨X, 0, none⟩ = some (.int .i64 x) ∧ w.cell? ⟨X, 1, none⟩ = some (.int .i64 y) := fun w h => by
    rw [Lib.cell_of_heap ((h.block X hXl).trans hX), Lib.cell_of_heap ((h.block X hXl).trans hX)]; exact ⟨rfl, rfl⟩
  have hE' : ∀ w, Below w0.heap.size w0 w → Srcs w 2 (.slice a n cap) n (enC ls) := fun w h => by have := en_srcs (hE.below h); rw [← hn] at this; exact this
  clear hn hE
  refine wp_region_held (S := fun w' => Below w0.heap.size w0 w') (by kernel_rfl) ?_
  change wpAnyH _ _ _ _ _ 7 _ _ (World.drew w0)
  have C0 : Below w0.heap.size w0 w0.drew := (Below.refl _ _).drew
  refine take_h (i := 1) (oi := { dst := some 39, op := Op.move (Operand.tmp 0), type := 28, pos := ps, after := #[], guard := none }) (fuel := 6) (v := (.slice a n cap)) (fr6 (.slice a n cap) v1 v2 (.pointer (some ⟨X, 0, none⟩)) v4 v5 v6 v7 v8 v9 v10 v11 v12 v13 v14 v15 v16 v17 v18 v19 v20 v21 v22 v23 v24 v25 v26 v27 v28 v29 v30 v31 v32 v33 v34 v35 v36 v37 v38 (.slice a n cap) v40 v41 v42 v43 v44 v45 v46 v47 v48 v49 v50 v51 v52 v53 v54 v55 v56 v57 v58 v59 v60 v61 v62 v63 v64 v65 v66 v67 v68 v69 v70 v71 v72 v73 v74 v75 v76 v77 v78 v79 v80 v81 v82 v83 v84 v85 v86 v87 v88 v89 v90 v91 v92 v93 v94 v95 v96 v97 v98 v99 v100 v101 v102 v103 v104 v105 v106 v107 v108 v109 v110 v111 v112 v113 v114 v115 v116 v117 v118 v119 v120 v121 v122 v123 v124 v125 v126 v127 v128 v129 v130 v131 v132 v133 v134 v135 v136 v137 v138 v139 v140 v141) (by kernel_rfl) (by kernel_rfl) (by kernel_rfl) (by kernel_rfl) (fun c x w => hQ c x _ _ w) (by kernel_rfl) (fun w _ => by kernel_rfl) (by kernel_rfl) C0 ?_
  refine take_h (i := 3) (oi := { dst := some 41, op := Op.load 37 (Operand.tmp 3), type := 37, pos := ps, after := #[], guard := none }) (fuel := 5) (v := (.agg #[.int .i64 x, .int .i64 y])) (fr6 (.slice a n cap) v1 v2 (.pointer (some ⟨X, 0, none⟩)) v4 v5 v6 v7 v8 v9 v10 v11 v12 v13 v14 v15 v16 v17 v18 v19 v20 v21 v22 v23 v24 v25 v26 v27 v28 v29 v30 v31 v32 v33 v34 v35 v36 v37 v38 (.slice a n cap) v40 (.agg #[.int .i64 x, .int .i64 y]) v42 v43 v44 v45 v46 v47 v48 v49 v50 v51 v52 v53 v54 v55 v56 v57 v58 v59 v60 v61 v62 v63 v64 v65 v66 v67 v68 v69 v70 v71 v72 v73 v74 v75 v76 v77 v78 v79 v80 v81 v82 v83 v84 v85 v86 v87 v88 v89 v90 v91 v92 v93 v94 v95 v96 v97 v98 v99 v100 v101 v102 v103 v104 v105 v106 v107 v108 v109 v110 v111 v112 v113 v114 v115 v116 v117 v118 v119 v120 v121 v122 v123 v124 v125 v126 v127 v128 v129 v130 v131 v132 v133 v134 v135 v136 v137 v138 v139 v140 v141) (by kernel_rfl) (by kernel_rfl) (by kernel_rfl) (by kernel_rfl) (fun c x w => hQ c x _ _ w) (by kernel_rfl) (fun w h => by
    obtain ⟨e0, e1⟩ := hXc w h
    unfold fr6
    go_simp) (by kernel_rfl) C0 ?_
  have k1 : n + 1 ≤ maxLen := by unfold maxLen; omega
  have k2 : (n + 1) * 16 ≤ 140737488355328 := by omega
  have j1 : 0 + n ≤ maxLen := by unfold maxLen; omega
  have j2 : (0 + n) * 16 ≤ 140737488355328 := by omega
  have tail : ∀ s38 s42 v40 (W : World), W.ownsRow w0.heap.size 37 2 v40 n (enC ls) → Srcs W 2 s42 1 [.int .i64 x, .int .i64 y] → Below w0.heap.size w0 W → wpAnyH Tryd.prog .any (ops4 ps) Q (fun w' => Below w0.heap.size w0 w') 2 #[true, true, true, true, true, false, false] (fr6 (.slice a n cap) v1 v2 (.pointer (some ⟨X, 0, none⟩)) v4 v5 v6 v7 v8 v9 v10 v11 v12 v13 v14 v15 v16 v17 v18 v19 v20 v21 v22 v23 v24 v25 v26 v27 v28 v29 v30 v31 v32 v33 v34 v35 v36 v37 s38 (.slice a n cap) v40 (.agg #[.int .i64 x, .int .i64 y]) s42 v43 v44 v45 v46 v47 v48 v49 v50 v51 v52 v53 v54 v55 v56 v57 v58 v59 v60 v61 v62 v63 v64 v65 v66 v67 v68 v69 v70 v71 v72 v73 v74 v75 v76 v77 v78 v79 v80 v81 v82 v83 v84 v85 v86 v87 v88 v89 v90 v91 v92 v93 v94 v95 v96 v97 v98 v99 v100 v101 v102 v103 v104 v105 v106 v107 v108 v109 v110 v111 v112 v113 v114 v115 v116 v117 v118 v119 v120 v121 v122 v123 v124 v125 v126 v127 v128 v129 v130 v131 v132 v133 v134 v135 v136 v137 v138 v139 v140 v141) W := by
    intro s38 s42 v40 W hrow hsrc hB
    refine want_h (i := 5) (oi := { dst := some 43, op := Op.call { callee := Callee.builtin Builtin.append, args := #[Operand.tmp 40, Operand.tmp 42], argTypes := #[28, 28] }, type := 28, pos := ps, after := #[{ on := 2, ground := Ground.data }, { on := 4, ground := Ground.data }, { on := 2, ground := Ground.chain }], guard := none }) (fuel := 1) (by kernel_rfl) (by kernel_rfl) (by kernel_rfl) fun K hK => ?_
    refine wp_append_any W _ _ 28 rfl w0.heap.size 37 i0 _ 2 16 Tryd.underlying28 hi0 hz0 hz1 hz2 rfl (by decide) v40 n (enC ls) (by kernel_rfl) hrow 1 [.int .i64 x, .int .i64 y] s42 (by kernel_rfl) hsrc k1 k2 hB.size ?_
    intro v w' r g
    have hB' := below_grown hB hrow (Nat.le_refl _) (Nat.le_refl _) g
    refine hK _ _ hB' (cast_h (fr6 (.slice a n cap) v1 v2 (.pointer (some ⟨X, 0, none⟩)) v4 v5 v6 v7 v8 v9 v10 v11 v12 v13 v14 v15 v16 v17 v18 v19 v20 v21 v22 v23 v24 v25 v26 v27 v28 v29 v30 v31 v32 v33 v34 v35 v36 v37 s38 (.slice a n cap) v40 (.agg #[.int .i64 x, .int .i64 y]) s42 v v44 v45 v46 v47 v48 v49 v50 v51 v52 v53 v54 v55 v56 v57 v58 v59 v60 v61 v62 v63 v64 v65 v66 v67 v68 v69 v70 v71 v72 v73 v74 v75 v76 v77 v78 v79 v80 v81 v82 v83 v84 v85 v86 v87 v88 v89 v90 v91 v92 v93 v94 v95 v96 v97 v98 v99 v100 v101 v102 v103 v104 v105 v106 v107 v108 v109 v110 v111 v112 v113 v114 v115 v116 v117 v118 v119 v120 v121 v122 v123 v124 v125 v126 v127 v128 v129 v130 v131 v132 v133 v134 v135 v136 v137 v138 v139 v140 v141) (by kernel_rfl) ?_)
    clear hK K
    refine take_h (i := 6) (oi := { dst := some 6, op := Op.assign (Operand.tmp 43), type := 28, pos := ps, after := #[{ on := 5, ground := Ground.data }, { on := 5, ground := Ground.chain }, { on := 0, ground := Ground.phase }, { on := 1, ground := Ground.phase }, { on := 2, ground := Ground.phase }, { on := 3, ground := Ground.phase }, { on := 4, ground := Ground.phase }, { on := 5, ground := Ground.phase }], guard := none }) (fuel := 0) (v := v) (fr6 (.slice a n cap) v1 v2 (.pointer (some ⟨X, 0, none⟩)) v4 v5 v v7 v8 v9 v10 v11 v12 v13 v14 v15 v16 v17 v18 v19 v20 v21 v22 v23 v24 v25 v26 v27 v28 v29 v30 v31 v32 v33 v34 v35 v36 v37 s38 (.slice a n cap) v40 (.agg #[.int .i64 x, .int .i64 y]) s42 v v44 v45 v46 v47 v48 v49 v50 v51 v52 v53 v54 v55 v56 v57 v58 v59 v60 v61 v62 v63 v64 v65 v66 v67 v68 v69 v70 v71 v72 v73 v74 v75 v76 v77 v78 v79 v80 v81 v82 v83 v84 v85 v86 v87 v88 v89 v90 v91 v92 v93 v94 v95 v96 v97 v98 v99 v100 v101 v102 v103 v104 v105 v106 v107 v108 v109 v110 v111 v112 v113 v114 v115 v116 v117 v118 v119 v120 v121 v122 v123 v124 v125 v126 v127 v128 v129 v130 v131 v132 v133 v134 v135 v136 v137 v138 v139 v140 v141) (by kernel_rfl) (by kernel_rfl) (by kernel_rfl) (by kernel_rfl) (fun c x w => hQ c x _ _ w) (by kernel_rfl) (fun w _ => by kernel_rfl) (by kernel_rfl) hB' ?_
    refine wpAnyH_done (by kernel_rfl) (hq _ _ _ _ _ ?_ hB') _
    rw [enC_append]
    exact r
  refine two_h (i := 0) (j := 4) (oi := { dst := some 38, op := Op.buildSlice 28 0 #[], type := 28, pos := ps, after := #[], guard := none }) (oj := { dst := some 42, op := Op.buildSlice 28 1 #[(0, Operand.tmp 41)], type := 28, pos := ps, after := #[{ on := 3, ground := Ground.data }], guard := none }) (fuel := 4) (by kernel_rfl) (by kernel_rfl) (by kernel_rfl) (by kernel_rfl) (by kernel_rfl) (fun K hK => ?_) (fun K hK => ?_)
  · unfold fr6
    go_simp
    have B1 : Below w0.heap.size w0 (w0.drew.alloc (.cells #[] 37)) := C0.alloc (Nat.le_refl _) _
    have R1 : (w0.drew.alloc (.cells #[] 37)).ownsRow w0.heap.size 37 2 (.slice (some ⟨w0.heap.size, 0, none⟩) 0 0) 0 [] := ownsRow_lit w0.drew 37 2 _ (Nat.le_refl _)
    refine hK _ _ B1 (cast_h (fr6 (.slice a n cap) v1 v2 (.pointer (some ⟨X, 0, none⟩)) v4 v5 v6 v7 v8 v9 v10 v11 v12 v13 v14 v15 v16 v17 v18 v19 v20 v21 v22 v23 v24 v25 v26 v27 v28 v29 v30 v31 v32 v33 v34 v35 v36 v37 (.slice (some ⟨w0.heap.size, 0, none⟩) 0 0) (.slice a n cap) v40 (.agg #[.int .i64 x, .int .i64 y]) v42 v43 v44 v45 v46 v47 v48 v49 v50 v51 v52 v53 v54 v55 v56 v57 v58 v59 v60 v61 v62 v63 v64 v65 v66 v67 v68 v69 v70 v71 v72 v73 v74 v75 v76 v77 v78 v79 v80 v81 v82 v83 v84 v85 v86 v87 v88 v89 v90 v91 v92 v93 v94 v95 v96 v97 v98 v99 v100 v101 v102 v103 v104 v105 v106 v107 v108 v109 v110 v111 v112 v113 v114 v115 v116 v117 v118 v119 v120 v121 v122 v123 v124 v125 v126 v127 v128 v129 v130 v131 v132 v133 v134 v135 v136 v137 v138 v139 v140 v141) (by kernel_rfl) ?_)
    clear hK K
    change wpAnyH _ _ _ _ _ _ _ _ (w0.drew.alloc (.cells #[] 37))
    refine two_h (i := 2) (j := 4) (oi := { dst := some 40, op := Op.call { callee := Callee.builtin Builtin.append, args := #[Operand.tmp 38, Operand.tmp 39], argTypes := #[28, 28] }, type := 28, pos := ps, after := #[{ on := 0, ground := Ground.data }, { on := 1, ground := Ground.data }], guard := none }) (oj := { dst := some 42, op := Op.buildSlice 28 1 #[(0, Operand.tmp 41)], type := 28, pos := ps, after := #[{ on := 3, ground := Ground.data }], guard := none }) (fuel := 3) (by kernel_rfl) (by kernel_rfl) (by kernel_rfl) (by kernel_rfl) (by kernel_rfl) (fun K hK => ?_) (fun K hK => ?_)
    · refine wp_append_any (w0.drew.alloc (.cells #[] 37)) _ _ 28 rfl w0.heap.size 37 i0 _ 2 16 Tryd.underlying28 hi0 hz0 hz1 hz2 rfl (by decide) (.slice (some ⟨w0.heap.size, 0, none⟩) 0 0) 0 [] (by kernel_rfl) R1 n (enC ls) (.slice a n cap) (by kernel_rfl) (hE' _ B1) j1 j2 B1.size ?_
      intro v40 W r g
      rw [Nat.zero_add, List.nil_append] at r
      have B2 := below_grown B1 R1 (Nat.le_refl _) (Nat.le_refl _) g
      refine hK _ _ B2 (cast_h (fr6 (.slice a n cap) v1 v2 (.pointer (some ⟨X, 0, none⟩)) v4 v5 v6 v7 v8 v9 v10 v11 v12 v13 v14 v15 v16 v17 v18 v19 v20 v21 v22 v23 v24 v25 v26 v27 v28 v29 v30 v31 v32 v33 v34 v35 v36 v37 (.slice (some ⟨w0.heap.size, 0, none⟩) 0 0) (.slice a n cap) v40 (.agg #[.int .i64 x, .int .i64 y]) v42 v43 v44 v45 v46 v47 v48 v49 v50 v51 v52 v53 v54 v55 v56 v57 v58 v59 v60 v61 v62 v63 v64 v65 v66 v67 v68 v69 v70 v71 v72 v73 v74 v75 v76 v77 v78 v79 v80 v81 v82 v83 v84 v85 v86 v87 v88 v89 v90 v91 v92 v93 v94 v95 v96 v97 v98 v99 v100 v101 v102 v103 v104 v105 v106 v107 v108 v109 v110 v111 v112 v113 v114 v115 v116 v117 v118 v119 v120 v121 v122 v123 v124 v125 v126 v127 v128 v129 v130 v131 v132 v133 v134 v135 v136 v137 v138 v139 v140 v141) (by kernel_rfl) ?_)
      clear hK K
      refine want_h (i := 4) (oi := { dst := some 42, op := Op.buildSlice 28 1 #[(0, Operand.tmp 41)], type := 28, pos := ps, after := #[{ on := 3, ground := Ground.data }], guard := none }) (fuel := 2) (by kernel_rfl) (by kernel_rfl) (by kernel_rfl) fun K hK => ?_
      unfold fr6
      go_simp
      refine hK _ _ (B2.alloc B2.size (.cells #[.int .i64 x, .int .i64 y] 37)) (cast_h (fr6 (.slice a n cap) v1 v2 (.pointer (some ⟨X, 0, none⟩)) v4 v5 v6 v7 v8 v9 v10 v11 v12 v13 v14 v15 v16 v17 v18 v19 v20 v21 v22 v23 v24 v25 v26 v27 v28 v29 v30 v31 v32 v33 v34 v35 v36 v37 (.slice (some ⟨w0.heap.size, 0, none⟩) 0 0) (.slice a n cap) v40 (.agg #[.int .i64 x, .int .i64 y]) (.slice (some ⟨W.heap.size, 0, none⟩) 1 1) v43 v44 v45 v46 v47 v48 v49 v50 v51 v52 v53 v54 v55 v56 v57 v58 v59 v60 v61 v62 v63 v64 v65 v66 v67 v68 v69 v70 v71 v72 v73 v74 v75 v76 v77 v78 v79 v80 v81 v82 v83 v84 v85 v86 v87 v88 v89 v90 v91 v92 v93 v94 v95 v96 v97 v98 v99 v100 v101 v102 v103 v104 v105 v106 v107 v108 v109 v110 v111 v112 v113 v114 v115 v116 v117 v118 v119 v120 v121 v122 v123 v124 v125 v126 v127 v128 v129 v130 v131 v132 v133 v134 v135 v136 v137 v138 v139 v140 v141) (by kernel_rfl) ?_)
      exact tail _ _ _ _ (r.alloc _) (srcs_one W x y) (B2.alloc B2.size _)
    · unfold fr6
      go_simp
      have B2 : Below w0.heap.size w0 ((w0.drew.alloc (.cells #[] 37)).alloc (.cells #[.int .i64 x, .int .i64 y] 37)) := B1.alloc B1.size _
      have R2 : ((w0.drew.alloc (.cells #[] 37)).alloc (.cells #[.int .i64 x, .int .i64 y] 37)).ownsRow w0.heap.size 37 2 (.slice (some ⟨w0.heap.size, 0, none⟩) 0 0) 0 [] := R1.alloc _
      have Z2 := srcs_one (w0.drew.alloc (.cells #[] 37)) x y
      rw [World.size_alloc] at Z2
      change Srcs _ _ (.slice (some ⟨w0.heap.size + 1, 0, none⟩) 1 1) _ _ at Z2
      refine hK _ _ B2 (cast_h (fr6 (.slice a n cap) v1 v2 (.pointer (some ⟨X, 0, none⟩)) v4 v5 v6 v7 v8 v9 v10 v11 v12 v13 v14 v15 v16 v17 v18 v19 v20 v21 v22 v23 v24 v25 v26 v27 v28 v29 v30 v31 v32 v33 v34 v35 v36 v37 (.slice (some ⟨w0.heap.size, 0, none⟩) 0 0) (.slice a n cap) v40 (.agg #[.int .i64 x, .int .i64 y]) (.slice (some ⟨w0.heap.size + 1, 0, none⟩) 1 1) v43 v44 v45 v46 v47 v48 v49 v50 v51 v52 v53 v54 v55 v56 v57 v58 v59 v60 v61 v62 v63 v64 v65 v66 v67 v68 v69 v70 v71 v72 v73 v74 v75 v76 v77 v78 v79 v80 v81 v82 v83 v84 v85 v86 v87 v88 v89 v90 v91 v92 v93 v94 v95 v96 v97 v98 v99 v100 v101 v102 v103 v104 v105 v106 v107 v108 v109 v110 v111 v112 v113 v114 v115 v116 v117 v118 v119 v120 v121 v122 v123 v124 v125 v126 v127 v128 v129 v130 v131 v132 v133 v134 v135 v136 v137 v138 v139 v140 v141) (by kernel_rfl) ?_)
      clear hK K
      change wpAnyH _ _ _ _ _ _ _ _ ((w0.drew.alloc (.cells #[] 37)).alloc (.cells #[.int .i64 x, .int .i64 y] 37))
      refine want_h (i := 2) (oi := { dst := some 40, op := Op.call { callee := Callee.builtin Builtin.append, args := #[Operand.tmp 38, Operand.tmp 39], argTypes := #[28, 28] }, type := 28, pos := ps, after := #[{ on := 0, ground := Ground.data }, { on := 1, ground := Ground.data }], guard := none }) (fuel := 2) (by kernel_rfl) (by kernel_rfl) (by kernel_rfl) fun K hK => ?_
      refine wp_append_any ((w0.drew.alloc (.cells #[] 37)).alloc (.cells #[.int .i64 x, .int .i64 y] 37)) _ _ 28 rfl w0.heap.size 37 i0 _ 2 16 Tryd.underlying28 hi0 hz0 hz1 hz2 rfl (by decide) (.slice (some ⟨w0.heap.size, 0, none⟩) 0 0) 0 [] (by kernel_rfl) R2 n (enC ls) (.slice a n cap) (by kernel_rfl) (hE' _ B2) j1 j2 B2.size ?_
      intro v40 W r g
      rw [Nat.zero_add, List.nil_append] at r
      have B3 := below_grown B2 R2 (Nat.le_refl _) (Nat.le_refl _) g
      refine hK _ _ B3 (cast_h (fr6 (.slice a n cap) v1 v2 (.pointer (some ⟨X, 0, none⟩)) v4 v5 v6 v7 v8 v9 v10 v11 v12 v13 v14 v15 v16 v17 v18 v19 v20 v21 v22 v23 v24 v25 v26 v27 v28 v29 v30 v31 v32 v33 v34 v35 v36 v37 (.slice (some ⟨w0.heap.size, 0, none⟩) 0 0) (.slice a n cap) v40 (.agg #[.int .i64 x, .int .i64 y]) (.slice (some ⟨w0.heap.size + 1, 0, none⟩) 1 1) v43 v44 v45 v46 v47 v48 v49 v50 v51 v52 v53 v54 v55 v56 v57 v58 v59 v60 v61 v62 v63 v64 v65 v66 v67 v68 v69 v70 v71 v72 v73 v74 v75 v76 v77 v78 v79 v80 v81 v82 v83 v84 v85 v86 v87 v88 v89 v90 v91 v92 v93 v94 v95 v96 v97 v98 v99 v100 v101 v102 v103 v104 v105 v106 v107 v108 v109 v110 v111 v112 v113 v114 v115 v116 v117 v118 v119 v120 v121 v122 v123 v124 v125 v126 v127 v128 v129 v130 v131 v132 v133 v134 v135 v136 v137 v138 v139 v140 v141) (by kernel_rfl) ?_)
      exact tail _ _ _ _ r (srcs_keep Z2 (g.block _ (by simp) (by simp [Value.ownBlock]))) B3
  · unfold fr6
    go_simp
    have B1 : Below w0.heap.size w0 (w0.drew.alloc (.cells #[.int .i64 x, .int .i64 y] 37)) := C0.alloc (Nat.le_refl _) _
    have Z1 := srcs_one w0.drew x y
    refine hK _ _ B1 (cast_h (fr6 (.slice a n cap) v1 v2 (.pointer (some ⟨X, 0, none⟩)) v4 v5 v6 v7 v8 v9 v10 v11 v12 v13 v14 v15 v16 v17 v18 v19 v20 v21 v22 v23 v24 v25 v26 v27 v28 v29 v30 v31 v32 v33 v34 v35 v36 v37 v38 (.slice a n cap) v40 (.agg #[.int .i64 x, .int .i64 y]) (.slice (some ⟨w0.heap.size, 0, none⟩) 1 1) v43 v44 v45 v46 v47 v48 v49 v50 v51 v52 v53 v54 v55 v56 v57 v58 v59 v60 v61 v62 v63 v64 v65 v66 v67 v68 v69 v70 v71 v72 v73 v74 v75 v76 v77 v78 v79 v80 v81 v82 v83 v84 v85 v86 v87 v88 v89 v90 v91 v92 v93 v94 v95 v96 v97 v98 v99 v100 v101 v102 v103 v104 v105 v106 v107 v108 v109 v110 v111 v112 v113 v114 v115 v116 v117 v118 v119 v120 v121 v122 v123 v124 v125 v126 v127 v128 v129 v130 v131 v132 v133 v134 v135 v136 v137 v138 v139 v140 v141) (by kernel_rfl) ?_)
    clear hK K
    change wpAnyH _ _ _ _ _ _ _ _ (w0.drew.alloc (.cells #[.int .i64 x, .int .i64 y] 37))
    refine want_h (i := 0) (oi := { dst := some 38, op := Op.buildSlice 28 0 #[], type := 28, pos := ps, after := #[], guard := none }) (fuel := 3) (by kernel_rfl) (by kernel_rfl) (by kernel_rfl) fun K hK => ?_
    unfold fr6
    go_simp
    have B2 : Below w0.heap.size w0 ((w0.drew.alloc (.cells #[.int .i64 x, .int .i64 y] 37)).alloc (.cells #[] 37)) := B1.alloc B1.size _
    have R2 : ((w0.drew.alloc (.cells #[.int .i64 x, .int .i64 y] 37)).alloc (.cells #[] 37)).ownsRow w0.heap.size 37 2 (.slice (some ⟨w0.heap.size + 1, 0, none⟩) 0 0) 0 [] := by have h := ownsRow_lit (w0.drew.alloc (.cells #[.int .i64 x, .int .i64 y] 37)) 37 2 w0.heap.size B1.size; rw [World.size_alloc] at h; exact h
    have Z2 := srcs_keep Z1 (W' := (w0.drew.alloc (.cells #[.int .i64 x, .int .i64 y] 37)).alloc (.cells #[] 37)) (Below.heap_alloc _ _ _ (by simp))
    refine hK _ _ B2 (cast_h (fr6 (.slice a n cap) v1 v2 (.pointer (some ⟨X, 0, none⟩)) v4 v5 v6 v7 v8 v9 v10 v11 v12 v13 v14 v15 v16 v17 v18 v19 v20 v21 v22 v23 v24 v25 v26 v27 v28 v29 v30 v31 v32 v33 v34 v35 v36 v37 (.slice (some ⟨w0.heap.size + 1, 0, none⟩) 0 0) (.slice a n cap) v40 (.agg #[.int .i64 x, .int .i64 y]) (.slice (some ⟨w0.heap.size, 0, none⟩) 1 1) v43 v44 v45 v46 v47 v48 v49 v50 v51 v52 v53 v54 v55 v56 v57 v58 v59 v60 v61 v62 v63 v64 v65 v66 v67 v68 v69 v70 v71 v72 v73 v74 v75 v76 v77 v78 v79 v80 v81 v82 v83 v84 v85 v86 v87 v88 v89 v90 v91 v92 v93 v94 v95 v96 v97 v98 v99 v100 v101 v102 v103 v104 v105 v106 v107 v108 v109 v110 v111 v112 v113 v114 v115 v116 v117 v118 v119 v120 v121 v122 v123 v124 v125 v126 v127 v128 v129 v130 v131 v132 v133 v134 v135 v136 v137 v138 v139 v140 v141) (by kernel_rfl) ?_)
    clear hK K
    change wpAnyH _ _ _ _ _ _ _ _ ((w0.drew.alloc (.cells #[.int .i64 x, .int .i64 y] 37)).alloc (.cells #[] 37))
    refine want_h (i := 2) (oi := { dst := some 40, op := Op.call { callee := Callee.builtin Builtin.append, args := #[Operand.tmp 38, Operand.tmp 39], argTypes := #[28, 28] }, type := 28, pos := ps, after := #[{ on := 0, ground := Ground.data }, { on := 1, ground := Ground.data }], guard := none }) (fuel := 2) (by kernel_rfl) (by kernel_rfl) (by kernel_rfl) fun K hK => ?_
    refine wp_append_any ((w0.drew.alloc (.cells #[.int .i64 x, .int .i64 y] 37)).alloc (.cells #[] 37)) _ _ 28 rfl w0.heap.size 37 i0 _ 2 16 Tryd.underlying28 hi0 hz0 hz1 hz2 rfl (by decide) (.slice (some ⟨w0.heap.size + 1, 0, none⟩) 0 0) 0 [] (by kernel_rfl) R2 n (enC ls) (.slice a n cap) (by kernel_rfl) (hE' _ B2) j1 j2 B2.size ?_
    intro v40 W r g
    rw [Nat.zero_add, List.nil_append] at r
    have B3 := below_grown B2 R2 (Nat.le_refl _) (Nat.le_refl _) g
    refine hK _ _ B3 (cast_h (fr6 (.slice a n cap) v1 v2 (.pointer (some ⟨X, 0, none⟩)) v4 v5 v6 v7 v8 v9 v10 v11 v12 v13 v14 v15 v16 v17 v18 v19 v20 v21 v22 v23 v24 v25 v26 v27 v28 v29 v30 v31 v32 v33 v34 v35 v36 v37 (.slice (some ⟨w0.heap.size + 1, 0, none⟩) 0 0) (.slice a n cap) v40 (.agg #[.int .i64 x, .int .i64 y]) (.slice (some ⟨w0.heap.size, 0, none⟩) 1 1) v43 v44 v45 v46 v47 v48 v49 v50 v51 v52 v53 v54 v55 v56 v57 v58 v59 v60 v61 v62 v63 v64 v65 v66 v67 v68 v69 v70 v71 v72 v73 v74 v75 v76 v77 v78 v79 v80 v81 v82 v83 v84 v85 v86 v87 v88 v89 v90 v91 v92 v93 v94 v95 v96 v97 v98 v99 v100 v101 v102 v103 v104 v105 v106 v107 v108 v109 v110 v111 v112 v113 v114 v115 v116 v117 v118 v119 v120 v121 v122 v123 v124 v125 v126 v127 v128 v129 v130 v131 v132 v133 v134 v135 v136 v137 v138 v139 v140 v141) (by kernel_rfl) ?_)
    exact tail _ _ _ _ r (srcs_keep Z2 (g.block _ (by simp; omega) (by simp [Value.ownBlock]))) B3
end Go.Proofs.YtjagnidkjpmkcaaDoor
