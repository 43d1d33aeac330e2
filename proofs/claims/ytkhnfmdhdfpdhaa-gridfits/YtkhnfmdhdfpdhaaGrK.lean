/-
  What is proved here: columns that grow: the drawn regions.
-/
import Derived.Test.YtkhnfmdhdfpdhaaGrJ
import Derived.Test.YtkhnfmdhdfpdhaaReg
namespace Go.Proofs.Ytkhnfmdhdfpdhaa
open Go.RowKit Go.Shelf

def opg6 (ps : String) : Array Oper := #[{ dst := some 31, op := Op.move (Operand.tmp 8), type := 26, pos := ps, after := #[], guard := none }, { dst := some 32, op := Op.move (Operand.tmp 9), type := 3, pos := ps, after := #[], guard := none }, { dst := some 33, op := Op.fieldAddr 55 (Operand.tmp 10) 0, type := 0, pos := ps, after := #[], guard := none }, { dst := some 34, op := Op.load 3 (Operand.tmp 33), type := 3, pos := ps, after := #[{ on := 2, ground := Ground.data }], guard := none }, { dst := some 35, op := Op.load 55 (Operand.tmp 10), type := 55, pos := ps, after := #[], guard := none }, { dst := some 36, op := Op.call { callee := Callee.value (Operand.func 48), args := #[Operand.tmp 35], argTypes := #[55] }, type := 3, pos := ps, after := #[{ on := 4, ground := Ground.data }], guard := none }, { dst := some 37, op := Op.call { callee := Callee.value (Operand.func 47), args := #[Operand.tmp 7, Operand.tmp 36], argTypes := #[91, 3] }, type := 3, pos := ps, after := #[{ on := 5, ground := Ground.data }, { on := 5, ground := Ground.chain }], guard := none }, { dst := some 38, op := Op.binOp BinOp.add 3 (Operand.tmp 34) (Operand.tmp 37) 3, type := 3, pos := ps, after := #[{ on := 3, ground := Ground.data }, { on := 6, ground := Ground.data }], guard := none }, { dst := some 39, op := Op.indexAddr 26 (Operand.tmp 31) (Operand.tmp 32), type := 0, pos := ps, after := #[{ on := 0, ground := Ground.data }, { on := 1, ground := Ground.data }, { on := 0, ground := Ground.phase }, { on := 1, ground := Ground.phase }, { on := 2, ground := Ground.phase }, { on := 3, ground := Ground.phase }, { on := 4, ground := Ground.phase }, { on := 5, ground := Ground.phase }, { on := 6, ground := Ground.phase }, { on := 7, ground := Ground.phase }], guard := none }, { dst := none, op := Op.store 3 (Operand.tmp 39) (Operand.tmp 38), type := 0, pos := ps, after := #[{ on := 8, ground := Ground.data }, { on := 7, ground := Ground.data }, { on := 6, ground := Ground.chain }, { on := 0, ground := Ground.phase }, { on := 1, ground := Ground.phase }, { on := 2, ground := Ground.phase }, { on := 3, ground := Ground.phase }, { on := 4, ground := Ground.phase }, { on := 5, ground := Ground.phase }, { on := 6, ground := Ground.phase }, { on := 7, ground := Ground.phase }], guard := none }]

set_option maxRecDepth 100000 in
set_option maxHeartbeats 1000000 in
theorem gro_r6 (Q : Exit → Act → World → Prop) (hQ : ∀ c x (n : Nat) v w, Q (.panic c) (x.put (some n) v) w → Q (.panic c) x w) (id : Nat) (ps : String) (bS bT bC n k : Nat) (x y r p t g : Int) (v0 v1 v2 v3 v4 v5 v6 v11 v12 v13 v14 v15 v16 v17 v18 v19 v20 v21 v22 v23 v24 v25 v26 v27 v28 v29 v30 v31 v32 v33 v34 v35 v36 v37 v38 v39 v40 v41 : Value) (W : World)
    (hx : 0 ≤ x ∧ x ≤ y ∧ y ≤ 10000000) (hr : 0 ≤ r ∧ r ≤ 10000000) (hp : 0 ≤ p ∧ p ≤ 10000000) (ht : 0 ≤ t ∧ t ≤ 10000000) (hg : 0 ≤ g ∧ g ≤ 1000000000000000) (hkn : k < n)
    (hC : B2 W bC x y) (hH : SH W bS r p t g) (hT : W.cell? ⟨bT, k, none⟩ = some (.int .i64 0)) (hz : W.frozen? ⟨bT, k, none⟩ = false) (hlt : bT < W.heap.size) (h1 : bC ≠ bS) (h2 : bT ≠ bS) (h3 : bC ≠ bT)
    (hK : ∀ W', SH W' bS r p (t + (y - x)) (gv r p (t + (y - x))) → Turns (fun b => b = bS) W W' → Q .normal { tmps := #[v0, v1, v2, v3, v4, v5, v6, .pointer (some ⟨bS, 0, none⟩), .slice (some ⟨bT, 0, none⟩) n n, .int .i64 (k : Int), .pointer (some ⟨bC, 0, none⟩), v11, v12, v13, v14, v15, v16, v17, v18, v19, v20, v21, v22, v23, v24, v25, v26, v27, v28, v29, v30, .slice (some ⟨bT, 0, none⟩) n n, .int .i64 (k : Int), .pointer (some ⟨bC, 0, none⟩), .int .i64 x, .agg #[.int .i64 x, .int .i64 y], .int .i64 (y - x), .int .i64 (gv r p (t + (y - x)) - g), .int .i64 (x + (gv r p (t + (y - x)) - g)), .pointer (some ⟨bT, k, none⟩), v40, v41], defers := [] } (W'.setCell ⟨bT, k, none⟩ (.int .i64 (x + (gv r p (t + (y - x)) - g))))) :
    (Code.region id (opg6 ps) true).wp Try.prog Q { tmps := #[v0, v1, v2, v3, v4, v5, v6, .pointer (some ⟨bS, 0, none⟩), .slice (some ⟨bT, 0, none⟩) n n, .int .i64 (k : Int), .pointer (some ⟨bC, 0, none⟩), v11, v12, v13, v14, v15, v16, v17, v18, v19, v20, v21, v22, v23, v24, v25, v26, v27, v28, v29, v30, v31, v32, v33, v34, v35, v36, v37, v38, v39, v40, v41], defers := [] } W := by
  have hm0 : 0 ≤ r * (t + (y - x)) := Int.mul_nonneg hr.1 (by omega)
  have hm1 : r * (t + (y - x)) ≤ 10000000 * 20000000 := Int.mul_le_mul hr.2 (by omega) (by omega) (by omega)
  have hv0 : 0 ≤ gv r p (t + (y - x)) := Int.ediv_nonneg hm0 (by omega)
  have hv1 : gv r p (t + (y - x)) ≤ r * (t + (y - x)) := Int.ediv_le_self _ hm0
  refine wp_region_held (S := fun w => B2 w bC x y) (by kernel_rfl) ?_
  change wpAnyH _ _ _ _ _ 10 _ _ (World.drew W)
  have hTd : Turns (fun b => b = bS) W W.drew := Turns.drew _ _
  have hS : B2 W.drew bC x y := ⟨hC.row⟩
  have hH0 : SH W.drew bS r p t g := ⟨hH.row⟩
  generalize W.drew = V at hS hH0 hTd ⊢
  unfold opg6
  refine wpAnyH_take (i := 0) (v := .slice (some ⟨bT, 0, none⟩) n n) rfl (by kernel_rfl) (by kernel_rfl) (by kernel_rfl) (fun c x w => hQ c x _ _ w) (Or.inl ⟨by rfl, ?y1⟩) hS ?_
  case y1 => (intro w' hw'; go_simp)
  go_simp
  refine wpAnyH_take (i := 1) (v := .int .i64 (k : Int)) rfl (by kernel_rfl) (by kernel_rfl) (by kernel_rfl) (fun c x w => hQ c x _ _ w) (Or.inl ⟨by rfl, ?y2⟩) hS ?_
  case y2 => (intro w' hw'; go_simp)
  go_simp
  refine wpAnyH_take (i := 2) (v := .pointer (some ⟨bC, 0, none⟩)) rfl (by kernel_rfl) (by kernel_rfl) (by kernel_rfl) (fun c x w => hQ c x _ _ w) (Or.inl ⟨by rfl, ?y3⟩) hS ?_
  case y3 => (intro w' hw'; go_simp)
  go_simp
  refine wpAnyH_take (i := 3) (v := .int .i64 x) rfl (by kernel_rfl) (by kernel_rfl) (by kernel_rfl) (fun c x w => hQ c x _ _ w) (Or.inl ⟨by rfl, ?y4⟩) hS ?_
  case y4 => (intro w' hw'; have c0 := B2.c0 hw'; go_simp)
  go_simp
  refine wpAnyH_take (i := 4) (v := .agg #[.int .i64 x, .int .i64 y]) rfl (by kernel_rfl) (by kernel_rfl) (by kernel_rfl) (fun c x w => hQ c x _ _ w) (Or.inl ⟨by rfl, ?y5⟩) hS ?_
  case y5 => (intro w' hw'; have c0 := B2.c0 hw'; have c1 := B2.c1 hw'; go_simp)
  go_simp
  refine want_h (i := 5) (by kernel_rfl) rfl (by kernel_rfl) fun K hK' => ?_
  go_simp
  refine (grows_any x y (by omega) (by omega) _).mono ?_
  rintro e w1 ⟨rfl, b1⟩
  have hT1 : Turns (fun b => b = bS) W w1 := hTd.trans ((Turns.of_below b1).mono (fun _ h => h.elim))
  have hH1 := hH0.below b1 hH0.lt
  have hS1 := hS.below b1 hS.lt
  refine hK' _ _ hS1 ?_
  clear hK' K hS hH0
  go_simp
  refine want_h (i := 6) (by kernel_rfl) rfl (by kernel_rfl) fun K hK' => ?_
  go_simp
  refine (next_any bS r p t g (y - x) hr hp ht (by omega) hg _ hH1).mono ?_
  rintro e w2 ⟨rfl, hH2, T2⟩
  have hT2 : Turns (fun b => b = bS) W w2 := hT1.trans T2
  have hS2 := hS1.turns T2 h1
  refine hK' _ _ hS2 ?_
  clear hK' K hS1 hH1
  go_simp
  refine wpAnyH_take (i := 7) (v := .int .i64 (x + (gv r p (t + (y - x)) - g))) rfl (by kernel_rfl) (by kernel_rfl) (by kernel_rfl) (fun c x w => hQ c x _ _ w) (Or.inl ⟨by rfl, ?y6⟩) hS2 ?_
  case y6 => (intro w' hw'; go_simp; simp [IntKind.wrap, IntKind.bits, IntKind.signed]; omega)
  go_simp
  refine wpAnyH_take (i := 8) (v := .pointer (some ⟨bT, k, none⟩)) rfl (by kernel_rfl) (by kernel_rfl) (by kernel_rfl) (fun c x w => hQ c x _ _ w) (Or.inl ⟨by rfl, ?y7⟩) hS2 ?_
  case y7 => (intro w' hw'; go_simp)
  go_simp
  have c9 : w2.cell? ⟨bT, k, none⟩ = some (.int .i64 0) := by
    rw [← hT]
    unfold World.cell?
    rw [hT2.block bT hlt h2]
  have z9 : w2.frozen? ⟨bT, k, none⟩ = false := by
    rw [← hz]
    unfold World.frozen?
    rw [hT2.block bT hlt h2]
  have hQ1 := hK w2 hH2 hT2
  refine want_h (i := 9) (by kernel_rfl) rfl (by kernel_rfl) fun K hK' => ?_
  go_simp
  exact hK' _ _ (hS2.turns (Turns.setCell (X := fun b => b = bT) w2 (p := ⟨bT, k, none⟩) rfl _) h3) (wpAnyH_done (by kernel_rfl) hQ1 _)
def opg1 (ps : String) : Array Oper := #[{ dst := some 11, op := Op.move (Operand.tmp 2), type := 3, pos := ps, after := #[], guard := none }, { dst := some 12, op := Op.fieldAddr 55 (Operand.tmp 4) 1, type := 0, pos := ps, after := #[], guard := none }, { dst := some 13, op := Op.load 3 (Operand.tmp 12), type := 3, pos := ps, after := #[{ on := 1, ground := Ground.data }], guard := none }, { dst := some 14, op := Op.call { callee := Callee.builtin Builtin.min, args := #[Operand.tmp 11, Operand.tmp 13], argTypes := #[3, 3] }, type := 3, pos := ps, after := #[{ on := 0, ground := Ground.data }, { on := 2, ground := Ground.data }], guard := none }, { dst := some 15, op := Op.fieldAddr 55 (Operand.tmp 4) 0, type := 0, pos := ps, after := #[], guard := none }, { dst := some 16, op := Op.load 3 (Operand.tmp 15), type := 3, pos := ps, after := #[{ on := 4, ground := Ground.data }], guard := none }, { dst := some 17, op := Op.binOp BinOp.sub 3 (Operand.tmp 14) (Operand.tmp 16) 3, type := 3, pos := ps, after := #[{ on := 3, ground := Ground.data }, { on := 5, ground := Ground.data }], guard := none }, { dst := some 18, op := Op.load 55 (Operand.tmp 4), type := 55, pos := ps, after := #[], guard := none }, { dst := some 19, op := Op.call { callee := Callee.value (Operand.func 48), args := #[Operand.tmp 18], argTypes := #[55] }, type := 3, pos := ps, after := #[{ on := 7, ground := Ground.data }], guard := none }, { dst := some 20, op := Op.build 91 #[(0, Operand.tmp 17), (1, Operand.tmp 19)], type := 91, pos := ps, after := #[{ on := 6, ground := Ground.data }, { on := 8, ground := Ground.data }], guard := none }, { dst := some 7, op := Op.alloc 91, type := 0, pos := ps, after := #[], guard := none }, { dst := none, op := Op.store 91 (Operand.tmp 7) (Operand.tmp 20), type := 0, pos := ps, after := #[{ on := 10, ground := Ground.data }, { on := 9, ground := Ground.data }, { on := 8, ground := Ground.chain }, { on := 0, ground := Ground.phase }, { on := 1, ground := Ground.phase }, { on := 2, ground := Ground.phase }, { on := 3, ground := Ground.phase }, { on := 4, ground := Ground.phase }, { on := 5, ground := Ground.phase }, { on := 6, ground := Ground.phase }, { on := 7, ground := Ground.phase }, { on := 8, ground := Ground.phase }, { on := 9, ground := Ground.phase }, { on := 10, ground := Ground.phase }], guard := none }]

theorem info91 (a b c d : Int) : (Try.prog.info? 91).map (·.size) = some (#[Value.int .i64 a, .int .i64 b, .int .i64 c, .int .i64 d] : Array Value).size := by show _ = some 4; kernel_rfl
theorem one91 (a b c d : Int) : (#[Value.int .i64 a, .int .i64 b, .int .i64 c, .int .i64 d] : Array Value).all (·.oneCell') = true := by simp [Value.oneCell']
set_option maxRecDepth 100000 in
set_option maxHeartbeats 1000000 in
theorem gro_r1 (Q : Exit → Act → World → Prop) (hQ : ∀ c x (n : Nat) v w, Q (.panic c) (x.put (some n) v) w → Q (.panic c) x w) (id : Nat) (ps : String) (bA : Nat) (q x y : Int) (v0 v1 v3 v5 v6 v8 v9 v10 v21 v22 v23 v24 v25 v26 v27 v28 v29 v30 v31 v32 v33 v34 v35 v36 v37 v38 v39 v40 v41 : Value) (W : World)
    (hx : 0 ≤ x ∧ x ≤ y ∧ y ≤ 10000000) (hq : x ≤ q ∧ q ≤ 4095) (hA : B2 W bA x y)
    (hK : ∀ B W', W.heap.size ≤ B → SH W' B (min q y - x) (y - x) 0 0 → Below W.heap.size W W' → Q .normal { tmps := #[v0, v1, .int .i64 q, v3, .pointer (some ⟨bA, 0, none⟩), v5, v6, .pointer (some ⟨B, 0, none⟩), v8, v9, v10, .int .i64 q, .pointer (some ⟨bA, 1, none⟩), .int .i64 y, .int .i64 (min q y), .pointer (some ⟨bA, 0, none⟩), .int .i64 x, .int .i64 (min q y - x), .agg #[.int .i64 x, .int .i64 y], .int .i64 (y - x), .agg #[.int .i64 (min q y - x), .int .i64 (y - x), .int .i64 0, .int .i64 0], v21, v22, v23, v24, v25, v26, v27, v28, v29, v30, v31, v32, v33, v34, v35, v36, v37, v38, v39, v40, v41], defers := [] } W') :
    (Code.region id (opg1 ps) true).wp Try.prog Q { tmps := #[v0, v1, .int .i64 q, v3, .pointer (some ⟨bA, 0, none⟩), v5, v6, undef, v8, v9, v10, undef, undef, undef, undef, undef, undef, undef, undef, undef, undef, v21, v22, v23, v24, v25, v26, v27, v28, v29, v30, v31, v32, v33, v34, v35, v36, v37, v38, v39, v40, v41], defers := [] } W := by
  refine wp_region_held (S := fun w => B2 w bA x y) (by kernel_rfl) ?_
  change wpAnyH _ _ _ _ _ 12 _ _ (World.drew W)
  have hBd : Below W.heap.size W W.drew := below_drewN (Below.refl _ _) 1
  have hS : B2 W.drew bA x y := ⟨hA.row⟩
  have hlA := hA.lt
  generalize W.drew = V at hS hBd ⊢
  unfold opg1
  refine wpAnyH_take (i := 0) (v := .int .i64 q) rfl (by kernel_rfl) (by kernel_rfl) (by kernel_rfl) (fun c x w => hQ c x _ _ w) (Or.inl ⟨by rfl, ?y8⟩) hS ?_
  case y8 => (intro w' hw'; go_simp)
  go_simp
  refine wpAnyH_take (i := 1) (v := .pointer (some ⟨bA, 1, none⟩)) rfl (by kernel_rfl) (by kernel_rfl) (by kernel_rfl) (fun c x w => hQ c x _ _ w) (Or.inl ⟨by rfl, ?y9⟩) hS ?_
  case y9 => (intro w' hw'; go_simp)
  go_simp
  refine wpAnyH_take (i := 2) (v := .int .i64 y) rfl (by kernel_rfl) (by kernel_rfl) (by kernel_rfl) (fun c x w => hQ c x _ _ w) (Or.inl ⟨by rfl, ?y10⟩) hS ?_
  case y10 => (intro w' hw'; have c1 := B2.c1 hw'; go_simp)
  go_simp
  refine wpAnyH_take (i := 3) (v := .int .i64 (min q y)) rfl (by kernel_rfl) (by kernel_rfl) (by kernel_rfl) (fun c x w => hQ c x _ _ w) (Or.inl ⟨by rfl, ?y11⟩) hS ?_
  case y11 => (intro w' hw'; go_simp; (first | done | (split <;> omega)))
  go_simp
  refine wpAnyH_take (i := 4) (v := .pointer (some ⟨bA, 0, none⟩)) rfl (by kernel_rfl) (by kernel_rfl) (by kernel_rfl) (fun c x w => hQ c x _ _ w) (Or.inl ⟨by rfl, ?y12⟩) hS ?_
  case y12 => (intro w' hw'; go_simp)
  go_simp
  refine wpAnyH_take (i := 5) (v := .int .i64 x) rfl (by kernel_rfl) (by kernel_rfl) (by kernel_rfl) (fun c x w => hQ c x _ _ w) (Or.inl ⟨by rfl, ?y13⟩) hS ?_
  case y13 => (intro w' hw'; have c0 := B2.c0 hw'; go_simp)
  go_simp
  refine wpAnyH_take (i := 6) (v := .int .i64 (min q y - x)) rfl (by kernel_rfl) (by kernel_rfl) (by kernel_rfl) (fun c x w => hQ c x _ _ w) (Or.inl ⟨by rfl, ?y14⟩) hS ?_
  case y14 => (intro w' hw'; go_simp; simp [IntKind.wrap, IntKind.bits, IntKind.signed]; omega)
  go_simp
  refine wpAnyH_take (i := 7) (v := .agg #[.int .i64 x, .int .i64 y]) rfl (by kernel_rfl) (by kernel_rfl) (by kernel_rfl) (fun c x w => hQ c x _ _ w) (Or.inl ⟨by rfl, ?y15⟩) hS ?_
  case y15 => (intro w' hw'; have c0 := B2.c0 hw'; have c1 := B2.c1 hw'; go_simp)
  go_simp
  refine two_h (i := 8) (j := 10) (by kernel_rfl) rfl rfl (by kernel_rfl) (by kernel_rfl) (fun K hK' => ?_) (fun K hK' => ?_)
  · go_simp
    refine (grows_any x y (by omega) (by omega) _).mono ?_
    rintro e w1 ⟨rfl, b1⟩
    have hB1 := hBd.trans (b1.mono hBd.size)
    have hS1 := hS.below b1 hS.lt
    refine hK' _ _ hS1 ?_
    clear hK' K
    go_simp
    refine wpAnyH_take (i := 9) (v := .agg #[.int .i64 (min q y - x), .int .i64 (y - x), .int .i64 0, .int .i64 0]) rfl (by kernel_rfl) (by kernel_rfl) (by kernel_rfl) (fun c x w => hQ c x _ _ w) (Or.inl ⟨by rfl, ?y16⟩) hS1 ?_
    case y16 => (intro w' hw'; go_simp)
    go_simp
    refine want_h (i := 10) (by kernel_rfl) rfl (by kernel_rfl) fun K hK' => ?_
    go_simp
    have hS2 := hS1.turns (Turns.alloc Noth w1 (.cells #[.int .i64 0, .int .i64 0, .int .i64 0, .int .i64 0] 91)) (fun h => h)
    have hB2 := hB1.alloc hB1.size (.cells #[.int .i64 0, .int .i64 0, .int .i64 0, .int .i64 0] 91)
    have hZ := SH.new w1 0 0 0 0
    refine hK' _ _ hS2 ?_
    clear hK' K
    go_simp
    have hBB : W.heap.size ≤ w1.heap.size := hB1.size
    generalize w1.alloc (.cells #[.int .i64 0, .int .i64 0, .int .i64 0, .int .i64 0] 91) = w2 at *
    generalize w1.heap.size = B at *
    refine want_h (i := 11) (by kernel_rfl) rfl (by kernel_rfl) fun K hK' => ?_
    refine wp_store_row 91 _ _ rfl B #[.int .i64 (min q y - x), .int .i64 (y - x), .int .i64 0, .int .i64 0] rfl rfl 91 _ hZ.row (info91 _ _ _ _) rfl (one91 _ _ _ _) ?_
    have hT3 := Turns.setRow (X := fun b => b = B) w2 (r := B) rfl #[.int .i64 (min q y - x), .int .i64 (y - x), .int .i64 0, .int .i64 0]
    have hB3 : Below W.heap.size W (w2.setRow B #[.int .i64 (min q y - x), .int .i64 (y - x), .int .i64 0, .int .i64 0]) := hB2.trans (hT3.below hB2.size (fun k hk => by omega))
    exact hK' _ _ (hS2.turns hT3 (by omega)) (wpAnyH_done (by kernel_rfl) (hK B _ hBB ⟨setRow_heap _ _ _ _ 91 _ hZ.row⟩ hB3) _)
  · go_simp
    have hS1 := hS.turns (Turns.alloc Noth V (.cells #[.int .i64 0, .int .i64 0, .int .i64 0, .int .i64 0] 91)) (fun h => h)
    have hB1 := hBd.alloc hBd.size (.cells #[.int .i64 0, .int .i64 0, .int .i64 0, .int .i64 0] 91)
    have hZ1 := SH.new V 0 0 0 0
    have hBB : W.heap.size ≤ V.heap.size := hBd.size
    refine hK' _ _ hS1 ?_
    clear hK' K
    go_simp
    generalize V.alloc (.cells #[.int .i64 0, .int .i64 0, .int .i64 0, .int .i64 0] 91) = w1 at *
    generalize V.heap.size = B at *
    refine want_h (i := 8) (by kernel_rfl) rfl (by kernel_rfl) fun K hK' => ?_
    go_simp
    refine (grows_any x y (by omega) (by omega) _).mono ?_
    rintro e w2 ⟨rfl, b2⟩
    have hB2 := hB1.trans (b2.mono hB1.size)
    have hS2 := hS1.below b2 hS1.lt
    have hZ := hZ1.below b2 hZ1.lt
    refine hK' _ _ hS2 ?_
    clear hK' K
    go_simp
    refine wpAnyH_take (i := 9) (v := .agg #[.int .i64 (min q y - x), .int .i64 (y - x), .int .i64 0, .int .i64 0]) rfl (by kernel_rfl) (by kernel_rfl) (by kernel_rfl) (fun c x w => hQ c x _ _ w) (Or.inl ⟨by rfl, ?y17⟩) hS2 ?_
    case y17 => (intro w' hw'; go_simp)
    go_simp
    refine want_h (i := 11) (by kernel_rfl) rfl (by kernel_rfl) fun K hK' => ?_
    refine wp_store_row 91 _ _ rfl B #[.int .i64 (min q y - x), .int .i64 (y - x), .int .i64 0, .int .i64 0] rfl rfl 91 _ hZ.row (info91 _ _ _ _) rfl (one91 _ _ _ _) ?_
    have hT3 := Turns.setRow (X := fun b => b = B) w2 (r := B) rfl #[.int .i64 (min q y - x), .int .i64 (y - x), .int .i64 0, .int .i64 0]
    have hB3 : Below W.heap.size W (w2.setRow B #[.int .i64 (min q y - x), .int .i64 (y - x), .int .i64 0, .int .i64 0]) := hB2.trans (hT3.below hB2.size (fun k hk => by omega))
    exact hK' _ _ (hS2.turns hT3 (by omega)) (wpAnyH_done (by kernel_rfl) (hK B _ hBB ⟨setRow_heap _ _ _ _ 91 _ hZ.row⟩ hB3) _)
end Go.Proofs.Ytkhnfmdhdfpdhaa
