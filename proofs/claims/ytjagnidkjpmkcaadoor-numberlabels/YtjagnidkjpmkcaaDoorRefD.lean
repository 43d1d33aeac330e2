/-
  What is proved here: the statement of the document's own Labels that puts a label behind others, in whatever order its operations come up.
-/
import Derived.Test.YtjagnidkjpmkcaaDoorMore
import Derived.Test.YtjagnidkjpmkcaaDoorRefC
namespace Go.Proofs.YtjagnidkjpmkcaaDoor
open Go.RowKit Go.Shelf

theorem srcs_str (W : World) (s : ByteArray) : Srcs (W.alloc (.cells #[.string s] 9)) 1 (.slice (some ⟨W.heap.size, 0, none⟩) 1 1) 1 [.string s] :=
  ⟨rfl, fun u hu => by simp at hu; rw [hu]; rfl, .inr ⟨_, _, rfl, fun k u hy => by
    rw [addr_add0, Lib.cell_of_heap (heap_new W _)]
    simpa using hy⟩⟩

def fr16 (v0 v1 v2 v3 v4 v5 v6 v7 v8 v9 v10 v11 v12 v13 v14 v15 v16 v17 v18 v19 v20 v21 v22 v23 v24 v25 v26 v27 v28 v29 v30 v31 v32 v33 v34 v35 v36 v37 v38 v39 v40 v41 v42 v43 v44 v45 v46 v47 v48 v49 v50 v51 v52 v53 v54 v55 v56 v57 v58 v59 : Value) : Act := { tmps := #[v0, v1, v2, v3, v4, v5, v6, v7, v8, v9, v10, v11, v12, v13, v14, v15, v16, v17, v18, v19, v20, v21, v22, v23, v24, v25, v26, v27, v28, v29, v30, v31, v32, v33, v34, v35, v36, v37, v38, v39, v40, v41, v42, v43, v44, v45, v46, v47, v48, v49, v50, v51, v52, v53, v54, v55, v56, v57, v58, v59], defers := [] }
def ops14 (ps : String) : Array Oper := #[{ dst := some 46, op := Op.move (Operand.tmp 3), type := 29, pos := ps, after := #[], guard := none }, { dst := some 47, op := Op.fieldAddr 37 (Operand.tmp 6) 1, type := 0, pos := ps, after := #[], guard := none }, { dst := some 48, op := Op.load 3 (Operand.tmp 47), type := 3, pos := ps, after := #[{ on := 1, ground := Ground.data }], guard := none }, { dst := some 49, op := Op.fieldAddr 37 (Operand.tmp 6) 0, type := 0, pos := ps, after := #[], guard := none }, { dst := some 50, op := Op.load 3 (Operand.tmp 49), type := 3, pos := ps, after := #[{ on := 3, ground := Ground.data }], guard := none }, { dst := some 51, op := Op.fieldAddr 37 (Operand.tmp 6) 1, type := 0, pos := ps, after := #[], guard := none }, { dst := some 52, op := Op.load 3 (Operand.tmp 51), type := 3, pos := ps, after := #[{ on := 5, ground := Ground.data }], guard := none }, { dst := some 53, op := Op.indexAddr 57 (Operand.tmp 4) (Operand.tmp 50), type := 0, pos := ps, after := #[{ on := 4, ground := Ground.data }], guard := none }, { dst := some 54, op := Op.indexAddr 52 (Operand.tmp 53) (Operand.tmp 52), type := 0, pos := ps, after := #[{ on := 7, ground := Ground.data }, { on := 6, ground := Ground.data }], guard := none }, { dst := some 55, op := Op.load 3 (Operand.tmp 54), type := 3, pos := ps, after := #[{ on := 8, ground := Ground.data }], guard := none }, { dst := some 56, op := Op.call { callee := Callee.value (Operand.func 11), args := #[Operand.tmp 48, Operand.tmp 55], argTypes := #[3, 3] }, type := 9, pos := ps, after := #[{ on := 2, ground := Ground.data }, { on := 9, ground := Ground.data }], guard := none }, { dst := some 57, op := Op.buildSlice 29 1 #[(0, Operand.tmp 56)], type := 29, pos := ps, after := #[{ on := 10, ground := Ground.data }], guard := none }, { dst := some 58, op := Op.call { callee := Callee.builtin Builtin.append, args := #[Operand.tmp 46, Operand.tmp 57], argTypes := #[29, 29] }, type := 29, pos := ps, after := #[{ on := 0, ground := Ground.data }, { on := 11, ground := Ground.data }, { on := 10, ground := Ground.chain }], guard := none }, { dst := some 3, op := Op.assign (Operand.tmp 58), type := 29, pos := ps, after := #[{ on := 12, ground := Ground.data }, { on := 12, ground := Ground.chain }, { on := 0, ground := Ground.phase }, { on := 1, ground := Ground.phase }, { on := 2, ground := Ground.phase }, { on := 3, ground := Ground.phase }, { on := 4, ground := Ground.phase }, { on := 5, ground := Ground.phase }, { on := 6, ground := Ground.phase }, { on := 7, ground := Ground.phase }, { on := 8, ground := Ground.phase }, { on := 9, ground := Ground.phase }, { on := 10, ground := Ground.phase }, { on := 11, ground := Ground.phase }, { on := 12, ground := Ground.phase }], guard := none }]

set_option maxRecDepth 100000 in
set_option maxHeartbeats 2000000 in
theorem lab_region (Q : Exit → Act → World → Prop) (hQ : ∀ c x (n : Nat) v w, Q (.panic c) (x.put (some n) v) w → Q (.panic c) x w) (id : Nat) (ps : String) {v0 v1 v2 v5 v7 v8 v9 v10 v11 v12 v13 v14 v15 v16 v17 v18 v19 v20 v21 v22 v23 v24 v25 v26 v27 v28 v29 v30 v31 v32 v33 v34 v35 v36 v37 v38 v39 v40 v41 v42 v43 v44 v45 v46 v47 v48 v49 v50 v51 v52 v53 v54 v55 v56 v57 v58 v59 : Value}
    (vo : Value) (m base cb X q lv c : Nat) (hq8 : q < 8) (hlv4 : lv < 4) (hc : c ≤ 3999) (hm : m ≤ 5000) (L : List (List UInt8)) (w0 : World) (hrow : w0.ownsRow base 9 1 vo m (strC L)) (cC cX : Array Value) (hcb : w0.heap[cb]? = some (.cells cC 57 (0, 0))) (hX : w0.heap[X]? = some (.cells cX 37 (0, 0)))
    (x0 : w0.cell? ⟨X, 0, none⟩ = some (.int .i64 ((q : Int) + 1))) (x1 : w0.cell? ⟨X, 1, none⟩ = some (.int .i64 lv)) (xc : w0.cell? ⟨cb, (q + 1) * 4 + lv, none⟩ = some (.int .i64 c)) (hb0 : base ≤ w0.heap.size) (B : Nat) (hB : B ≤ base) (wz : World) (hBz : Below B wz w0) (hBB : B ≤ wz.heap.size)
    (hq : ∀ g1 v w', w'.ownsRow base 9 1 v (m + 1) (strC L ++ [.string ⟨(labelN lv c).toArray⟩]) → w'.heap[cb]? = some (.cells cC 57 (0, 0)) → Below B wz w' → Q .normal (fr16 v0 v1 v2 v (.pointer (some ⟨cb, 0, none⟩)) v5 (.pointer (some ⟨X, 0, none⟩)) v7 v8 v9 v10 v11 v12 v13 v14 v15 v16 v17 v18 v19 v20 v21 v22 v23 v24 v25 v26 v27 v28 v29 v30 v31 v32 v33 v34 v35 v36 v37 v38 v39 v40 v41 v42 v43 v44 v45 vo (.pointer (some ⟨X, 1, none⟩)) (.int .i64 lv) (.pointer (some ⟨X, 0, none⟩)) (.int .i64 ((q : Int) + 1)) (.pointer (some ⟨X, 1, none⟩)) (.int .i64 lv) (.pointer (some ⟨cb, (q + 1) * 4, none⟩)) (.pointer (some ⟨cb, (q + 1) * 4 + lv, none⟩)) (.int .i64 c) (.string ⟨(labelN lv c).toArray⟩) (.slice (some ⟨g1, 0, none⟩) 1 1) v v59) w') :
    (Code.region id (ops14 ps) true).wp Tryd.prog Q (fr16 v0 v1 v2 vo (.pointer (some ⟨cb, 0, none⟩)) v5 (.pointer (some ⟨X, 0, none⟩)) v7 v8 v9 v10 v11 v12 v13 v14 v15 v16 v17 v18 v19 v20 v21 v22 v23 v24 v25 v26 v27 v28 v29 v30 v31 v32 v33 v34 v35 v36 v37 v38 v39 v40 v41 v42 v43 v44 v45 v46 v47 v48 v49 v50 v51 v52 v53 v54 v55 v56 v57 v58 v59) w0 := by
  obtain ⟨i0, hi0, hz0, hz1, hz2⟩ := info_parts info9
  have hlab := refLabel_any lv c (by omega) hc w0.drew
  have hXl : X < w0.heap.size := (Array.getElem?_eq_some_iff.1 hX).1
  have hcl : cb < w0.heap.size := (Array.getElem?_eq_some_iff.1 hcb).1
  have neX : vo.ownBlock ≠ some X := Lib.ownBlock_ne hrow hX (by decide)
  have neC : vo.ownBlock ≠ some cb := Lib.ownBlock_ne hrow hcb (by decide)
  generalize (⟨(labelN lv c).toArray⟩ : ByteArray) = s at hlab hq
  have hSof : ∀ w : World, w.heap[X]? = w0.heap[X]? → w.heap[cb]? = w0.heap[cb]? → (w.cell? ⟨X, 0, none⟩ = some (.int .i64 ((q : Int) + 1)) ∧ w.cell? ⟨X, 1, none⟩ = some (.int .i64 lv) ∧ w.cell? ⟨cb, (q + 1) * 4 + lv, none⟩ = some (.int .i64 c)) := fun w h1 h2 =>
    ⟨(World.cell?_of_block (w := w0) h1).trans x0, (World.cell?_of_block (w := w0) h1).trans x1, (World.cell?_of_block (w := w0) h2).trans xc⟩
  have hkeep1 : ∀ w1 : World, Below w0.drew.heap.size w0.drew w1 → _ := fun w1 b1 => hSof w1 (b1.block X hXl) (b1.block cb hcl)
  have hkeep2 : ∀ w1 : World, Below w0.drew.heap.size w0.drew w1 → _ := fun w1 b1 => hSof (w1.alloc (.cells #[.string s] 9)) ((Below.heap_alloc w1 _ X (Nat.lt_of_lt_of_le hXl b1.size)).trans (b1.block X hXl)) ((Below.heap_alloc w1 _ cb (Nat.lt_of_lt_of_le hcl b1.size)).trans (b1.block cb hcl))
  have hbz1 : ∀ w1 : World, Below w0.drew.heap.size w0.drew w1 → Below B wz (w1.alloc (.cells #[.string s] 9)) := fun w1 b1 => by
    have h1 : Below B wz w1 := hBz.trans (Below.mono (B := w0.heap.size) ⟨b1.os, b1.tape, b1.output, b1.size, b1.block⟩ (by omega))
    exact h1.alloc (by have := h1.size; omega) _
  have hrow1 : ∀ w1 : World, Below w0.drew.heap.size w0.drew w1 → (w1.alloc (.cells #[.string s] 9)).ownsRow base 9 1 vo m (strC L) := fun w1 b1 => by
    have h0 : w0.drew.ownsRow base 9 1 vo m (strC L) := hrow
    exact (ownsRow_below h0 b1).alloc _
  have hbase1 : ∀ w1 : World, Below w0.drew.heap.size w0.drew w1 → base ≤ (w1.alloc (.cells #[.string s] 9)).heap.size := fun w1 b1 => by
    have := b1.size; simp; exact Nat.le_trans hb0 (Nat.le_trans this (Nat.le_succ _))
  have hkeep3 : ∀ w1 w2 : World, Below w0.drew.heap.size w0.drew w1 → (w1.alloc (.cells #[.string s] 9)).grownBy w2 vo.ownBlock → (w2.cell? ⟨X, 0, none⟩ = some (.int .i64 ((q : Int) + 1)) ∧ w2.cell? ⟨X, 1, none⟩ = some (.int .i64 lv) ∧ w2.cell? ⟨cb, (q + 1) * 4 + lv, none⟩ = some (.int .i64 c)) ∧ w2.heap[cb]? = some (.cells cC 57 (0, 0)) ∧ Below B wz w2 := fun w1 w2 b1 gg => by
    have lX : X < (w1.alloc (.cells #[.string s] 9)).heap.size := by have := b1.size; simp; exact Nat.lt_succ_of_lt (Nat.lt_of_lt_of_le hXl this)
    have lC : cb < (w1.alloc (.cells #[.string s] 9)).heap.size := by have := b1.size; simp; exact Nat.lt_succ_of_lt (Nat.lt_of_lt_of_le hcl this)
    have eX : w2.heap[X]? = w0.heap[X]? := (gg.block X lX (fun e => neX e.symm)).trans ((Below.heap_alloc w1 _ X (Nat.lt_of_lt_of_le hXl b1.size)).trans (b1.block X hXl))
    have eC : w2.heap[cb]? = w0.heap[cb]? := (gg.block cb lC (fun e => neC e.symm)).trans ((Below.heap_alloc w1 _ cb (Nat.lt_of_lt_of_le hcl b1.size)).trans (b1.block cb hcl))
    exact ⟨hSof w2 eX eC, eC.trans hcb, below_grown (hbz1 w1 b1) (hrow1 w1 b1) hBB hB gg⟩
  have k1 : m + 1 ≤ maxLen := by unfold maxLen; omega
  have k2 : (m + 1) * 16 ≤ 140737488355328 := by omega
  have C0 := hSof w0.drew rfl rfl
  have hq9 : (q : Int) + 1 < 9 := by omega
  have hlv9 : (lv : Int) < 4 := by omega
  have hq0 : ¬ ((q : Int) + 1 < 0) := by omega
  have hq00 : (0 : Int) ≤ (q : Int) + 1 := by omega
  have htn : ((q : Int) + 1).toNat = q + 1 := by omega
  refine wp_region_held (S := fun w' => w'.cell? ⟨X, 0, none⟩ = some (.int .i64 ((q : Int) + 1)) ∧ w'.cell? ⟨X, 1, none⟩ = some (.int .i64 lv) ∧ w'.cell? ⟨cb, (q + 1) * 4 + lv, none⟩ = some (.int .i64 c)) (by kernel_rfl) ?_
  change wpAnyH _ _ _ _ _ 14 _ _ (World.drew w0)
  refine take_h (i := 0) (oi := { dst := some 46, op := Op.move (Operand.tmp 3), type := 29, pos := ps, after := #[], guard := none }) (fuel := 13) (v := vo) (fr16 v0 v1 v2 vo (.pointer (some ⟨cb, 0, none⟩)) v5 (.pointer (some ⟨X, 0, none⟩)) v7 v8 v9 v10 v11 v12 v13 v14 v15 v16 v17 v18 v19 v20 v21 v22 v23 v24 v25 v26 v27 v28 v29 v30 v31 v32 v33 v34 v35 v36 v37 v38 v39 v40 v41 v42 v43 v44 v45 vo v47 v48 v49 v50 v51 v52 v53 v54 v55 v56 v57 v58 v59) (by kernel_rfl) (by kernel_rfl) (by kernel_rfl) (by kernel_rfl) (fun c x w => hQ c x _ _ w) (by kernel_rfl) (fun w _ => by kernel_rfl) (by kernel_rfl) C0 ?_
  refine take_h (i := 1) (oi := { dst := some 47, op := Op.fieldAddr 37 (Operand.tmp 6) 1, type := 0, pos := ps, after := #[], guard := none }) (fuel := 12) (v := (.pointer (some ⟨X, 1, none⟩))) (fr16 v0 v1 v2 vo (.pointer (some ⟨cb, 0, none⟩)) v5 (.pointer (some ⟨X, 0, none⟩)) v7 v8 v9 v10 v11 v12 v13 v14 v15 v16 v17 v18 v19 v20 v21 v22 v23 v24 v25 v26 v27 v28 v29 v30 v31 v32 v33 v34 v35 v36 v37 v38 v39 v40 v41 v42 v43 v44 v45 vo (.pointer (some ⟨X, 1, none⟩)) v48 v49 v50 v51 v52 v53 v54 v55 v56 v57 v58 v59) (by kernel_rfl) (by kernel_rfl) (by kernel_rfl) (by kernel_rfl) (fun c x w => hQ c x _ _ w) (by kernel_rfl) (fun w h => by
    obtain ⟨e0, e1, e2⟩ := h
    unfold fr16
    go_simp) (by kernel_rfl) C0 ?_
  refine take_h (i := 2) (oi := { dst := some 48, op := Op.load 3 (Operand.tmp 47), type := 3, pos := ps, after := #[{ on := 1, ground := Ground.data }], guard := none }) (fuel := 11) (v := (.int .i64 lv)) (fr16 v0 v1 v2 vo (.pointer (some ⟨cb, 0, none⟩)) v5 (.pointer (some ⟨X, 0, none⟩)) v7 v8 v9 v10 v11 v12 v13 v14 v15 v16 v17 v18 v19 v20 v21 v22 v23 v24 v25 v26 v27 v28 v29 v30 v31 v32 v33 v34 v35 v36 v37 v38 v39 v40 v41 v42 v43 v44 v45 vo (.pointer (some ⟨X, 1, none⟩)) (.int .i64 lv) v49 v50 v51 v52 v53 v54 v55 v56 v57 v58 v59) (by kernel_rfl) (by kernel_rfl) (by kernel_rfl) (by kernel_rfl) (fun c x w => hQ c x _ _ w) (by kernel_rfl) (fun w h => by
    obtain ⟨e0, e1, e2⟩ := h
    unfold fr16
    go_simp) (by kernel_rfl) C0 ?_
  refine take_h (i := 3) (oi := { dst := some 49, op := Op.fieldAddr 37 (Operand.tmp 6) 0, type := 0, pos := ps, after := #[], guard := none }) (fuel := 10) (v := (.pointer (some ⟨X, 0, none⟩))) (fr16 v0 v1 v2 vo (.pointer (some ⟨cb, 0, none⟩)) v5 (.pointer (some ⟨X, 0, none⟩)) v7 v8 v9 v10 v11 v12 v13 v14 v15 v16 v17 v18 v19 v20 v21 v22 v23 v24 v25 v26 v27 v28 v29 v30 v31 v32 v33 v34 v35 v36 v37 v38 v39 v40 v41 v42 v43 v44 v45 vo (.pointer (some ⟨X, 1, none⟩)) (.int .i64 lv) (.pointer (some ⟨X, 0, none⟩)) v50 v51 v52 v53 v54 v55 v56 v57 v58 v59) (by kernel_rfl) (by kernel_rfl) (by kernel_rfl) (by kernel_rfl) (fun c x w => hQ c x _ _ w) (by kernel_rfl) (fun w h => by
    obtain ⟨e0, e1, e2⟩ := h
    unfold fr16
    go_simp) (by kernel_rfl) C0 ?_
  refine take_h (i := 4) (oi := { dst := some 50, op := Op.load 3 (Operand.tmp 49), type := 3, pos := ps, after := #[{ on := 3, ground := Ground.data }], guard := none }) (fuel := 9) (v := (.int .i64 ((q : Int) + 1))) (fr16 v0 v1 v2 vo (.pointer (some ⟨cb, 0, none⟩)) v5 (.pointer (some ⟨X, 0, none⟩)) v7 v8 v9 v10 v11 v12 v13 v14 v15 v16 v17 v18 v19 v20 v21 v22 v23 v24 v25 v26 v27 v28 v29 v30 v31 v32 v33 v34 v35 v36 v37 v38 v39 v40 v41 v42 v43 v44 v45 vo (.pointer (some ⟨X, 1, none⟩)) (.int .i64 lv) (.pointer (some ⟨X, 0, none⟩)) (.int .i64 ((q : Int) + 1)) v51 v52 v53 v54 v55 v56 v57 v58 v59) (by kernel_rfl) (by kernel_rfl) (by kernel_rfl) (by kernel_rfl) (fun c x w => hQ c x _ _ w) (by kernel_rfl) (fun w h => by
    obtain ⟨e0, e1, e2⟩ := h
    unfold fr16
    go_simp) (by kernel_rfl) C0 ?_
  refine take_h (i := 5) (oi := { dst := some 51, op := Op.fieldAddr 37 (Operand.tmp 6) 1, type := 0, pos := ps, after := #[], guard := none }) (fuel := 8) (v := (.pointer (some ⟨X, 1, none⟩))) (fr16 v0 v1 v2 vo (.pointer (some ⟨cb, 0, none⟩)) v5 (.pointer (some ⟨X, 0, none⟩)) v7 v8 v9 v10 v11 v12 v13 v14 v15 v16 v17 v18 v19 v20 v21 v22 v23 v24 v25 v26 v27 v28 v29 v30 v31 v32 v33 v34 v35 v36 v37 v38 v39 v40 v41 v42 v43 v44 v45 vo (.pointer (some ⟨X, 1, none⟩)) (.int .i64 lv) (.pointer (some ⟨X, 0, none⟩)) (.int .i64 ((q : Int) + 1)) (.pointer (some ⟨X, 1, none⟩)) v52 v53 v54 v55 v56 v57 v58 v59) (by kernel_rfl) (by kernel_rfl) (by kernel_rfl) (by kernel_rfl) (fun c x w => hQ c x _ _ w) (by kernel_rfl) (fun w h => by
    obtain ⟨e0, e1, e2⟩ := h
    unfold fr16
    go_simp) (by kernel_rfl) C0 ?_
  refine take_h (i := 6) (oi := { dst := some 52, op := Op.load 3 (Operand.tmp 51), type := 3, pos := ps, after := #[{ on := 5, ground := Ground.data }], guard := none }) (fuel := 7) (v := (.int .i64 lv)) (fr16 v0 v1 v2 vo (.pointer (some ⟨cb, 0, none⟩)) v5 (.pointer (some ⟨X, 0, none⟩)) v7 v8 v9 v10 v11 v12 v13 v14 v15 v16 v17 v18 v19 v20 v21 v22 v23 v24 v25 v26 v27 v28 v29 v30 v31 v32 v33 v34 v35 v36 v37 v38 v39 v40 v41 v42 v43 v44 v45 vo (.pointer (some ⟨X, 1, none⟩)) (.int .i64 lv) (.pointer (some ⟨X, 0, none⟩)) (.int .i64 ((q : Int) + 1)) (.pointer (some ⟨X, 1, none⟩)) (.int .i64 lv) v53 v54 v55 v56 v57 v58 v59) (by kernel_rfl) (by kernel_rfl) (by kernel_rfl) (by kernel_rfl) (fun c x w => hQ c x _ _ w) (by kernel_rfl) (fun w h => by
    obtain ⟨e0, e1, e2⟩ := h
    unfold fr16
    go_simp) (by kernel_rfl) C0 ?_
  refine take_h (i := 7) (oi := { dst := some 53, op := Op.indexAddr 57 (Operand.tmp 4) (Operand.tmp 50), type := 0, pos := ps, after := #[{ on := 4, ground := Ground.data }], guard := none }) (fuel := 6) (v := (.pointer (some ⟨cb, (q + 1) * 4, none⟩))) (fr16 v0 v1 v2 vo (.pointer (some ⟨cb, 0, none⟩)) v5 (.pointer (some ⟨X, 0, none⟩)) v7 v8 v9 v10 v11 v12 v13 v14 v15 v16 v17 v18 v19 v20 v21 v22 v23 v24 v25 v26 v27 v28 v29 v30 v31 v32 v33 v34 v35 v36 v37 v38 v39 v40 v41 v42 v43 v44 v45 vo (.pointer (some ⟨X, 1, none⟩)) (.int .i64 lv) (.pointer (some ⟨X, 0, none⟩)) (.int .i64 ((q : Int) + 1)) (.pointer (some ⟨X, 1, none⟩)) (.int .i64 lv) (.pointer (some ⟨cb, (q + 1) * 4, none⟩)) v54 v55 v56 v57 v58 v59) (by kernel_rfl) (by kernel_rfl) (by kernel_rfl) (by kernel_rfl) (fun c x w => hQ c x _ _ w) (by kernel_rfl) (fun w h => by
    obtain ⟨e0, e1, e2⟩ := h
    unfold fr16
    go_simp) (by kernel_rfl) C0 ?_
  refine take_h (i := 8) (oi := { dst := some 54, op := Op.indexAddr 52 (Operand.tmp 53) (Operand.tmp 52), type := 0, pos := ps, after := #[{ on := 7, ground := Ground.data }, { on := 6, ground := Ground.data }], guard := none }) (fuel := 5) (v := (.pointer (some ⟨cb, (q + 1) * 4 + lv, none⟩))) (fr16 v0 v1 v2 vo (.pointer (some ⟨cb, 0, none⟩)) v5 (.pointer (some ⟨X, 0, none⟩)) v7 v8 v9 v10 v11 v12 v13 v14 v15 v16 v17 v18 v19 v20 v21 v22 v23 v24 v25 v26 v27 v28 v29 v30 v31 v32 v33 v34 v35 v36 v37 v38 v39 v40 v41 v42 v43 v44 v45 vo (.pointer (some ⟨X, 1, none⟩)) (.int .i64 lv) (.pointer (some ⟨X, 0, none⟩)) (.int .i64 ((q : Int) + 1)) (.pointer (some ⟨X, 1, none⟩)) (.int .i64 lv) (.pointer (some ⟨cb, (q + 1) * 4, none⟩)) (.pointer (some ⟨cb, (q + 1) * 4 + lv, none⟩)) v55 v56 v57 v58 v59) (by kernel_rfl) (by kernel_rfl) (by kernel_rfl) (by kernel_rfl) (fun c x w => hQ c x _ _ w) (by kernel_rfl) (fun w h => by
    obtain ⟨e0, e1, e2⟩ := h
    unfold fr16
    go_simp) (by kernel_rfl) C0 ?_
  refine take_h (i := 9) (oi := { dst := some 55, op := Op.load 3 (Operand.tmp 54), type := 3, pos := ps, after := #[{ on := 8, ground := Ground.data }], guard := none }) (fuel := 4) (v := (.int .i64 c)) (fr16 v0 v1 v2 vo (.pointer (some ⟨cb, 0, none⟩)) v5 (.pointer (some ⟨X, 0, none⟩)) v7 v8 v9 v10 v11 v12 v13 v14 v15 v16 v17 v18 v19 v20 v21 v22 v23 v24 v25 v26 v27 v28 v29 v30 v31 v32 v33 v34 v35 v36 v37 v38 v39 v40 v41 v42 v43 v44 v45 vo (.pointer (some ⟨X, 1, none⟩)) (.int .i64 lv) (.pointer (some ⟨X, 0, none⟩)) (.int .i64 ((q : Int) + 1)) (.pointer (some ⟨X, 1, none⟩)) (.int .i64 lv) (.pointer (some ⟨cb, (q + 1) * 4, none⟩)) (.pointer (some ⟨cb, (q + 1) * 4 + lv, none⟩)) (.int .i64 c) v56 v57 v58 v59) (by kernel_rfl) (by kernel_rfl) (by kernel_rfl) (by kernel_rfl) (fun c x w => hQ c x _ _ w) (by kernel_rfl) (fun w h => by
    obtain ⟨e0, e1, e2⟩ := h
    unfold fr16
    go_simp) (by kernel_rfl) C0 ?_
  refine want_h (i := 10) (oi := { dst := some 56, op := Op.call { callee := Callee.value (Operand.func 11), args := #[Operand.tmp 48, Operand.tmp 55], argTypes := #[3, 3] }, type := 9, pos := ps, after := #[{ on := 2, ground := Ground.data }, { on := 9, ground := Ground.data }], guard := none }) (fuel := 3) (by kernel_rfl) (by kernel_rfl) (by kernel_rfl) fun K hK => ?_
  unfold fr16
  go_simp
  refine hlab.mono ?_
  rintro e w1 ⟨rfl, b1⟩
  have S1 := hkeep1 w1 b1
  refine hK _ _ S1 (cast_h (fr16 v0 v1 v2 vo (.pointer (some ⟨cb, 0, none⟩)) v5 (.pointer (some ⟨X, 0, none⟩)) v7 v8 v9 v10 v11 v12 v13 v14 v15 v16 v17 v18 v19 v20 v21 v22 v23 v24 v25 v26 v27 v28 v29 v30 v31 v32 v33 v34 v35 v36 v37 v38 v39 v40 v41 v42 v43 v44 v45 vo (.pointer (some ⟨X, 1, none⟩)) (.int .i64 lv) (.pointer (some ⟨X, 0, none⟩)) (.int .i64 ((q : Int) + 1)) (.pointer (some ⟨X, 1, none⟩)) (.int .i64 lv) (.pointer (some ⟨cb, (q + 1) * 4, none⟩)) (.pointer (some ⟨cb, (q + 1) * 4 + lv, none⟩)) (.int .i64 c) (.string s) v57 v58 v59) (by kernel_rfl) ?_)
  clear hK K
  refine want_h (i := 11) (oi := { dst := some 57, op := Op.buildSlice 29 1 #[(0, Operand.tmp 56)], type := 29, pos := ps, after := #[{ on := 10, ground := Ground.data }], guard := none }) (fuel := 2) (by kernel_rfl) (by kernel_rfl) (by kernel_rfl) fun K hK => ?_
  unfold fr16
  go_simp
  have S2 := hkeep2 w1 b1
  refine hK _ _ S2 (cast_h (fr16 v0 v1 v2 vo (.pointer (some ⟨cb, 0, none⟩)) v5 (.pointer (some ⟨X, 0, none⟩)) v7 v8 v9 v10 v11 v12 v13 v14 v15 v16 v17 v18 v19 v20 v21 v22 v23 v24 v25 v26 v27 v28 v29 v30 v31 v32 v33 v34 v35 v36 v37 v38 v39 v40 v41 v42 v43 v44 v45 vo (.pointer (some ⟨X, 1, none⟩)) (.int .i64 lv) (.pointer (some ⟨X, 0, none⟩)) (.int .i64 ((q : Int) + 1)) (.pointer (some ⟨X, 1, none⟩)) (.int .i64 lv) (.pointer (some ⟨cb, (q + 1) * 4, none⟩)) (.pointer (some ⟨cb, (q + 1) * 4 + lv, none⟩)) (.int .i64 c) (.string s) (.slice (some ⟨w1.heap.size, 0, none⟩) 1 1) v58 v59) (by kernel_rfl) ?_)
  clear hK K
  change wpAnyH _ _ _ _ _ _ _ _ (w1.alloc (.cells #[.string s] 9))
  refine want_h (i := 12) (oi := { dst := some 58, op := Op.call { callee := Callee.builtin Builtin.append, args := #[Operand.tmp 46, Operand.tmp 57], argTypes := #[29, 29] }, type := 29, pos := ps, after := #[{ on := 0, ground := Ground.data }, { on := 11, ground := Ground.data }, { on := 10, ground := Ground.chain }], guard := none }) (fuel := 1) (by kernel_rfl) (by kernel_rfl) (by kernel_rfl) fun K hK => ?_
  refine wp_append_any (w1.alloc (.cells #[.string s] 9)) _ _ 29 rfl base 9 i0 _ 1 16 Tryd.underlying29 hi0 hz0 hz1 hz2 rfl (by decide) vo m (strC L) (by kernel_rfl) (hrow1 w1 b1) 1 [.string s] (.slice (some ⟨w1.heap.size, 0, none⟩) 1 1) (by kernel_rfl) (srcs_str w1 s) k1 k2 (hbase1 w1 b1) ?_
  intro v w2 r gg
  have S3 := hkeep3 w1 w2 b1 gg
  refine hK _ _ S3.1 (cast_h (fr16 v0 v1 v2 vo (.pointer (some ⟨cb, 0, none⟩)) v5 (.pointer (some ⟨X, 0, none⟩)) v7 v8 v9 v10 v11 v12 v13 v14 v15 v16 v17 v18 v19 v20 v21 v22 v23 v24 v25 v26 v27 v28 v29 v30 v31 v32 v33 v34 v35 v36 v37 v38 v39 v40 v41 v42 v43 v44 v45 vo (.pointer (some ⟨X, 1, none⟩)) (.int .i64 lv) (.pointer (some ⟨X, 0, none⟩)) (.int .i64 ((q : Int) + 1)) (.pointer (some ⟨X, 1, none⟩)) (.int .i64 lv) (.pointer (some ⟨cb, (q + 1) * 4, none⟩)) (.pointer (some ⟨cb, (q + 1) * 4 + lv, none⟩)) (.int .i64 c) (.string s) (.slice (some ⟨w1.heap.size, 0, none⟩) 1 1) v v59) (by kernel_rfl) ?_)
  clear hK K
  refine take_h (i := 13) (oi := { dst := some 3, op := Op.assign (Operand.tmp 58), type := 29, pos := ps, after := #[{ on := 12, ground := Ground.data }, { on := 12, ground := Ground.chain }, { on := 0, ground := Ground.phase }, { on := 1, ground := Ground.phase }, { on := 2, ground := Ground.phase }, { on := 3, ground := Ground.phase }, { on := 4, ground := Ground.phase }, { on := 5, ground := Ground.phase }, { on := 6, ground := Ground.phase }, { on := 7, ground := Ground.phase }, { on := 8, ground := Ground.phase }, { on := 9, ground := Ground.phase }, { on := 10, ground := Ground.phase }, { on := 11, ground := Ground.phase }, { on := 12, ground := Ground.phase }], guard := none }) (fuel := 0) (v := v) (fr16 v0 v1 v2 v (.pointer (some ⟨cb, 0, none⟩)) v5 (.pointer (some ⟨X, 0, none⟩)) v7 v8 v9 v10 v11 v12 v13 v14 v15 v16 v17 v18 v19 v20 v21 v22 v23 v24 v25 v26 v27 v28 v29 v30 v31 v32 v33 v34 v35 v36 v37 v38 v39 v40 v41 v42 v43 v44 v45 vo (.pointer (some ⟨X, 1, none⟩)) (.int .i64 lv) (.pointer (some ⟨X, 0, none⟩)) (.int .i64 ((q : Int) + 1)) (.pointer (some ⟨X, 1, none⟩)) (.int .i64 lv) (.pointer (some ⟨cb, (q + 1) * 4, none⟩)) (.pointer (some ⟨cb, (q + 1) * 4 + lv, none⟩)) (.int .i64 c) (.string s) (.slice (some ⟨w1.heap.size, 0, none⟩) 1 1) v v59) (by kernel_rfl) (by kernel_rfl) (by kernel_rfl) (by kernel_rfl) (fun c x w => hQ c x _ _ w) (by kernel_rfl) (fun w _ => by kernel_rfl) (by kernel_rfl) S3.1 ?_
  exact wpAnyH_done (by kernel_rfl) (hq _ _ _ r S3.2.1 S3.2.2) _

end Go.Proofs.YtjagnidkjpmkcaaDoor
