/-
  What is proved here: the last region of the document's own style (for StyleScript).
-/
import Derived.Test.YtifkelpgpdgenaaXRefC
import Derived.Test.YtifkelpgpdgenaaXRefD
namespace Go.Proofs.Ytifkelpgpdgenaa
open Go.RowKit Go.Shelf

section
variable {ρ : Operand → Value} {w : World} {ps : String} {A : Array Edge} {G : Option (Nat × Bool)} {d : Option Nat} {i j : Nat}
theorem o_field88_1 (t : Nat) (h : ρ (.tmp i) = .pointer (some ⟨t, 0, none⟩)) : (execOp ρ { dst := d, op := Op.fieldAddr 88 (Operand.tmp i) 1, type := 0, pos := ps, after := A, guard := G }).run Try.prog w = .ok (.value (.pointer (some ⟨t, 1, none⟩))) w := by
  go_simp
theorem o_field88_2 (t : Nat) (h : ρ (.tmp i) = .pointer (some ⟨t, 0, none⟩)) : (execOp ρ { dst := d, op := Op.fieldAddr 88 (Operand.tmp i) 2, type := 0, pos := ps, after := A, guard := G }).run Try.prog w = .ok (.value (.pointer (some ⟨t, 2, none⟩))) w := by
  go_simp
end

def fr59 (v0 v1 v2 v3 v4 v5 v6 v7 v8 v9 v10 v11 v12 v13 v14 v15 v16 v17 v18 v19 v20 v21 v22 v23 v24 : Value) : Act := { tmps := #[v0, v1, v2, v3, v4, v5, v6, v7, v8, v9, v10, v11, v12, v13, v14, v15, v16, v17, v18, v19, v20, v21, v22, v23, v24], defers := [] }

def ops59 (ps : String) : Array Oper := #[{ dst := some 18, op := Op.move (Operand.tmp 0), type := 47, pos := ps, after := #[], guard := none }, { dst := some 19, op := Op.fieldAddr 88 (Operand.tmp 5) 1, type := 0, pos := ps, after := #[], guard := none }, { dst := some 20, op := Op.load 9 (Operand.tmp 19), type := 9, pos := ps, after := #[{ on := 1, ground := Ground.data }], guard := none }, { dst := some 21, op := Op.call { callee := Callee.value (Operand.func 59), args := #[Operand.tmp 18, Operand.tmp 20], argTypes := #[47, 9] }, type := 23, pos := ps, after := #[{ on := 0, ground := Ground.data }, { on := 2, ground := Ground.data }], guard := none }, { dst := some 22, op := Op.fieldAddr 88 (Operand.tmp 5) 2, type := 0, pos := ps, after := #[], guard := none }, { dst := some 23, op := Op.load 44 (Operand.tmp 22), type := 44, pos := ps, after := #[{ on := 4, ground := Ground.data }], guard := none }, { dst := some 24, op := Op.call { callee := Callee.value (Operand.func 58), args := #[Operand.tmp 21, Operand.tmp 23], argTypes := #[23, 44] }, type := 23, pos := ps, after := #[{ on := 3, ground := Ground.data }, { on := 5, ground := Ground.data }, { on := 3, ground := Ground.chain }], guard := none }, { dst := none, op := Op.store 23 (Operand.tmp 4) (Operand.tmp 24), type := 0, pos := ps, after := #[{ on := 6, ground := Ground.data }, { on := 6, ground := Ground.chain }, { on := 0, ground := Ground.phase }, { on := 1, ground := Ground.phase }, { on := 2, ground := Ground.phase }, { on := 3, ground := Ground.phase }, { on := 4, ground := Ground.phase }, { on := 5, ground := Ground.phase }, { on := 6, ground := Ground.phase }], guard := none }]

set_option maxRecDepth 100000 in
set_option maxHeartbeats 4000000 in
theorem refStyle_region (Q : Exit → Act → World → Prop) (hQ : ∀ c x (n : Nat) v w, Q (.panic c) (x.put (some n) v) w → Q (.panic c) x w) (id : Nat) (ps : String) {v1 v2 v3 v6 v7 v8 v9 v10 v11 v12 v13 v14 v15 v16 v17 : Value}
    (g B4 B5 : Nat) (p : Str) (L : List (Int × Int)) (hLp : allP L) (a : Option Addr) (cap : Nat) (R : List Int → Prop) (hRl : ∀ m, R m → m.length = 17) (W : World) (hZ : PB W B4 23 zeroL) (h5 : B5 < W.heap.size) (hne : B5 ≠ B4) (hL : SetsAt W (.slice a L.length cap) L)
    (hmk : ∀ W', Below W.heap.size W W' → Calls Try.prog 59 #[.pointer (some ⟨g, 0, none⟩), .string p] W' fun e w' => ∃ m, R m ∧ e = .returned (.agg (prC m)) ∧ Below W'.heap.size W' w')
    (hS0 : W.cell? ⟨B5, 1, none⟩ = some (.string p) ∧ W.cell? ⟨B5, 2, none⟩ = some (.slice a L.length cap))
    (hq : ∀ w' m, R m → Below W.heap.size W w' → PB w' B4 23 zeroL → Q .normal (fr59 (.pointer (some ⟨g, 0, none⟩)) v1 v2 v3 (.pointer (some ⟨B4, 0, none⟩)) (.pointer (some ⟨B5, 0, none⟩)) v6 v7 v8 v9 v10 v11 v12 v13 v14 v15 v16 v17 (.pointer (some ⟨g, 0, none⟩)) (.pointer (some ⟨B5, 1, none⟩)) (.string p) (.agg (prC m)) (.pointer (some ⟨B5, 2, none⟩)) (.slice a L.length cap) (.agg (prC (applyL m L)))) (w'.setRow B4 (prC (applyL m L)))) :
    (Code.region id (ops59 ps) true).wp Try.prog Q (fr59 (.pointer (some ⟨g, 0, none⟩)) v1 v2 v3 (.pointer (some ⟨B4, 0, none⟩)) (.pointer (some ⟨B5, 0, none⟩)) v6 v7 v8 v9 v10 v11 v12 v13 v14 v15 v16 v17 undef undef undef undef undef undef undef) W := by
  refine wp_region_held (S := fun w' => w'.cell? ⟨B5, 1, none⟩ = some (.string p) ∧ w'.cell? ⟨B5, 2, none⟩ = some (.slice a L.length cap)) (by kernel_rfl) ?_
  change wpAnyH _ _ _ _ _ 8 _ _ (World.drew W)
  have C0 : Below W.heap.size W W.drew := below_drew (Below.refl _ _)
  have hS : W.drew.cell? ⟨B5, 1, none⟩ = some (.string p) ∧ W.drew.cell? ⟨B5, 2, none⟩ = some (.slice a L.length cap) := hS0
  refine take_h (i := 0) (oi := { dst := some 18, op := Op.move (Operand.tmp 0), type := 47, pos := ps, after := #[], guard := none }) (fuel := 7) (v := (.pointer (some ⟨g, 0, none⟩))) (fr59 (.pointer (some ⟨g, 0, none⟩)) v1 v2 v3 (.pointer (some ⟨B4, 0, none⟩)) (.pointer (some ⟨B5, 0, none⟩)) v6 v7 v8 v9 v10 v11 v12 v13 v14 v15 v16 v17 (.pointer (some ⟨g, 0, none⟩)) undef undef undef undef undef undef) (by kernel_rfl) (by kernel_rfl) (by kernel_rfl) (by kernel_rfl) (fun c x w => hQ c x _ _ w) (by kernel_rfl) (fun _ hS => by kernel_rfl) (by kernel_rfl) hS ?_
  refine take_h (i := 1) (oi := { dst := some 19, op := Op.fieldAddr 88 (Operand.tmp 5) 1, type := 0, pos := ps, after := #[], guard := none }) (fuel := 6) (v := (.pointer (some ⟨B5, 1, none⟩))) (fr59 (.pointer (some ⟨g, 0, none⟩)) v1 v2 v3 (.pointer (some ⟨B4, 0, none⟩)) (.pointer (some ⟨B5, 0, none⟩)) v6 v7 v8 v9 v10 v11 v12 v13 v14 v15 v16 v17 (.pointer (some ⟨g, 0, none⟩)) (.pointer (some ⟨B5, 1, none⟩)) undef undef undef undef undef) (by kernel_rfl) (by kernel_rfl) (by kernel_rfl) (by kernel_rfl) (fun c x w => hQ c x _ _ w) (by kernel_rfl) (fun _ hS => o_field88_1 _ rfl) (by kernel_rfl) hS ?_
  refine take_h (i := 2) (oi := { dst := some 20, op := Op.load 9 (Operand.tmp 19), type := 9, pos := ps, after := #[{ on := 1, ground := Ground.data }], guard := none }) (fuel := 5) (v := (.string p)) (fr59 (.pointer (some ⟨g, 0, none⟩)) v1 v2 v3 (.pointer (some ⟨B4, 0, none⟩)) (.pointer (some ⟨B5, 0, none⟩)) v6 v7 v8 v9 v10 v11 v12 v13 v14 v15 v16 v17 (.pointer (some ⟨g, 0, none⟩)) (.pointer (some ⟨B5, 1, none⟩)) (.string p) undef undef undef undef) (by kernel_rfl) (by kernel_rfl) (by kernel_rfl) (by kernel_rfl) (fun c x w => hQ c x _ _ w) (by kernel_rfl) (fun _ hS => o_load9 _ _ hS.1 rfl) (by kernel_rfl) hS ?_
  refine take_h (i := 4) (oi := { dst := some 22, op := Op.fieldAddr 88 (Operand.tmp 5) 2, type := 0, pos := ps, after := #[], guard := none }) (fuel := 4) (v := (.pointer (some ⟨B5, 2, none⟩))) (fr59 (.pointer (some ⟨g, 0, none⟩)) v1 v2 v3 (.pointer (some ⟨B4, 0, none⟩)) (.pointer (some ⟨B5, 0, none⟩)) v6 v7 v8 v9 v10 v11 v12 v13 v14 v15 v16 v17 (.pointer (some ⟨g, 0, none⟩)) (.pointer (some ⟨B5, 1, none⟩)) (.string p) undef (.pointer (some ⟨B5, 2, none⟩)) undef undef) (by kernel_rfl) (by kernel_rfl) (by kernel_rfl) (by kernel_rfl) (fun c x w => hQ c x _ _ w) (by kernel_rfl) (fun _ hS => o_field88_2 _ rfl) (by kernel_rfl) hS ?_
  refine take_h (i := 5) (oi := { dst := some 23, op := Op.load 44 (Operand.tmp 22), type := 44, pos := ps, after := #[{ on := 4, ground := Ground.data }], guard := none }) (fuel := 3) (v := (.slice a L.length cap)) (fr59 (.pointer (some ⟨g, 0, none⟩)) v1 v2 v3 (.pointer (some ⟨B4, 0, none⟩)) (.pointer (some ⟨B5, 0, none⟩)) v6 v7 v8 v9 v10 v11 v12 v13 v14 v15 v16 v17 (.pointer (some ⟨g, 0, none⟩)) (.pointer (some ⟨B5, 1, none⟩)) (.string p) undef (.pointer (some ⟨B5, 2, none⟩)) (.slice a L.length cap) undef) (by kernel_rfl) (by kernel_rfl) (by kernel_rfl) (by kernel_rfl) (fun c x w => hQ c x _ _ w) (by kernel_rfl) (fun _ hS => o_load44 _ _ hS.2 rfl) (by kernel_rfl) hS ?_
  refine want_h (i := 3) (oi := { dst := some 21, op := Op.call { callee := Callee.value (Operand.func 59), args := #[Operand.tmp 18, Operand.tmp 20], argTypes := #[47, 9] }, type := 23, pos := ps, after := #[{ on := 0, ground := Ground.data }, { on := 2, ground := Ground.data }], guard := none }) (fuel := 2) (by kernel_rfl) (by kernel_rfl) (by kernel_rfl) fun K hK => ?_
  unfold fr59
  go_simp
  refine (hmk _ C0).mono ?_
  rintro e y1 ⟨m, hm, rfl, hb1⟩
  have C1 : Below W.heap.size W y1 := C0.trans (hb1.mono C0.size)
  have hml := hRl m hm
  clear hb1
  have hS1 : y1.cell? ⟨B5, 1, none⟩ = some (.string p) ∧ y1.cell? ⟨B5, 2, none⟩ = some (.slice a L.length cap) := ⟨(C1.cell h5).trans hS0.1, (C1.cell h5).trans hS0.2⟩
  refine hK _ _ hS1 (cast_h (fr59 (.pointer (some ⟨g, 0, none⟩)) v1 v2 v3 (.pointer (some ⟨B4, 0, none⟩)) (.pointer (some ⟨B5, 0, none⟩)) v6 v7 v8 v9 v10 v11 v12 v13 v14 v15 v16 v17 (.pointer (some ⟨g, 0, none⟩)) (.pointer (some ⟨B5, 1, none⟩)) (.string p) (.agg (prC m)) (.pointer (some ⟨B5, 2, none⟩)) (.slice a L.length cap) undef) (by kernel_rfl) ?_)
  clear hK K
  refine want_h (i := 6) (oi := { dst := some 24, op := Op.call { callee := Callee.value (Operand.func 58), args := #[Operand.tmp 21, Operand.tmp 23], argTypes := #[23, 44] }, type := 23, pos := ps, after := #[{ on := 3, ground := Ground.data }, { on := 5, ground := Ground.data }, { on := 3, ground := Ground.chain }], guard := none }) (fuel := 1) (by kernel_rfl) (by kernel_rfl) (by kernel_rfl) fun K hK => ?_
  unfold fr59
  go_simp
  refine (refMakes_any m hml _ L hLp _ (hL.below C1)).mono ?_
  rintro e y2 ⟨rfl, hb2⟩
  have C2 : Below W.heap.size W y2 := C1.trans (hb2.mono C1.size)
  clear hb2
  have hS2 : y2.cell? ⟨B5, 1, none⟩ = some (.string p) ∧ y2.cell? ⟨B5, 2, none⟩ = some (.slice a L.length cap) := ⟨(C2.cell h5).trans hS0.1, (C2.cell h5).trans hS0.2⟩
  have hZ2 := hZ.below C2 hZ.lt
  have hfl : (applyL m L).length = 17 := by rw [applyL_length]; exact hml
  refine hK _ _ hS2 (cast_h (fr59 (.pointer (some ⟨g, 0, none⟩)) v1 v2 v3 (.pointer (some ⟨B4, 0, none⟩)) (.pointer (some ⟨B5, 0, none⟩)) v6 v7 v8 v9 v10 v11 v12 v13 v14 v15 v16 v17 (.pointer (some ⟨g, 0, none⟩)) (.pointer (some ⟨B5, 1, none⟩)) (.string p) (.agg (prC m)) (.pointer (some ⟨B5, 2, none⟩)) (.slice a L.length cap) (.agg (prC (applyL m L)))) (by kernel_rfl) ?_)
  clear hK K
  refine want_h (i := 7) (oi := { dst := none, op := Op.store 23 (Operand.tmp 4) (Operand.tmp 24), type := 0, pos := ps, after := #[{ on := 6, ground := Ground.data }, { on := 6, ground := Ground.chain }, { on := 0, ground := Ground.phase }, { on := 1, ground := Ground.phase }, { on := 2, ground := Ground.phase }, { on := 3, ground := Ground.phase }, { on := 4, ground := Ground.phase }, { on := 5, ground := Ground.phase }, { on := 6, ground := Ground.phase }], guard := none }) (fuel := 0) (by kernel_rfl) (by kernel_rfl) (by kernel_rfl) fun K hK => ?_
  refine wp_store_row 23 _ _ rfl B4 (prC (applyL m L)) rfl rfl 23 _ hZ2.row (info23l hfl) (by rw [prC_size, prC_size, hfl]; exact hZ2.len) (prC_one _) ?_
  have hS3 : (y2.setRow B4 (prC (applyL m L))).cell? ⟨B5, 1, none⟩ = some (.string p) ∧ (y2.setRow B4 (prC (applyL m L))).cell? ⟨B5, 2, none⟩ = some (.slice a L.length cap) := ⟨(cell_setRow _ hne _).trans hS2.1, (cell_setRow _ hne _).trans hS2.2⟩
  refine hK _ _ hS3 (cast_h (fr59 (.pointer (some ⟨g, 0, none⟩)) v1 v2 v3 (.pointer (some ⟨B4, 0, none⟩)) (.pointer (some ⟨B5, 0, none⟩)) v6 v7 v8 v9 v10 v11 v12 v13 v14 v15 v16 v17 (.pointer (some ⟨g, 0, none⟩)) (.pointer (some ⟨B5, 1, none⟩)) (.string p) (.agg (prC m)) (.pointer (some ⟨B5, 2, none⟩)) (.slice a L.length cap) (.agg (prC (applyL m L)))) (by kernel_rfl) ?_)
  clear hK K
  exact wpAnyH_done (by kernel_rfl) (hq _ m hm C2 hZ2) _
end Go.Proofs.Ytifkelpgpdgenaa
