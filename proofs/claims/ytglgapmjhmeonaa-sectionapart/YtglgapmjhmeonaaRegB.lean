/-
  What is proved here: a region of section's across, whose operations come up in any order.
-/
import Derived.Test.YtglgapmjhmeonaaWalkF
namespace Go.Proofs.Ytglgapmjhmeonaa
open Go.RowKit Go.Shelf

theorem three_h {P : Program} {md : Region.Mode} {ops : Array Oper} {Q : Exit → Act → World → Prop} {S : World → Prop} {i j l : Nat} {oi oj ol : Oper} {fuel : Nat} {listed : Array Bool} {a : Act} {w : World} (hr : Region.ready md ops listed = [i, j, l]) (hi : ops[i]? = some oi) (hj : ops[j]? = some oj) (hl : ops[l]? = some ol)
    (hw : Region.wanted oi (yielded ops a.tmps) = true) (hw' : Region.wanted oj (yielded ops a.tmps) = true) (hw2 : Region.wanted ol (yielded ops a.tmps) = true) (h : ∀ K : Act → World → Prop, (∀ a' w', S w' → wpAnyH P md ops Q S fuel (listed.setIfInBounds i true) a' w' → K a' w') → oi.wp P a w K Q)
    (h' : ∀ K : Act → World → Prop, (∀ a' w', S w' → wpAnyH P md ops Q S fuel (listed.setIfInBounds j true) a' w' → K a' w') → oj.wp P a w K Q) (h2 : ∀ K : Act → World → Prop, (∀ a' w', S w' → wpAnyH P md ops Q S fuel (listed.setIfInBounds l true) a' w' → K a' w') → ol.wp P a w K Q) : wpAnyH P md ops Q S (fuel + 1) listed a w :=
  wpAnyH_all hr (by simp) fun k hk => by
    rcases List.mem_cons.1 hk with rfl | hk
    · unfold wpOp
      simp only [hi, hw, if_true]
      exact Or.inl (h _ fun a' w' hS h' => ⟨hS, h'⟩)
    · rcases List.mem_cons.1 hk with rfl | hk
      · unfold wpOp
        simp only [hj, hw', if_true]
        exact Or.inl (h' _ fun a' w' hS h' => ⟨hS, h'⟩)
      · obtain rfl := List.mem_singleton.1 hk
        unfold wpOp
        simp only [hl, hw2, if_true]
        exact Or.inl (h2 _ fun a' w' hS h' => ⟨hS, h'⟩)
def fr29 (v0 v1 v2 v3 v4 v5 v6 v7 v8 v9 v10 v11 v12 v13 v14 v15 v16 v17 v18 v19 v20 v21 v22 v23 v24 v25 v26 v27 v28 v29 v30 v31 v32 : Value) : Act := { tmps := #[v0, v1, v2, v3, v4, v5, v6, v7, v8, v9, v10, v11, v12, v13, v14, v15, v16, v17, v18, v19, v20, v21, v22, v23, v24, v25, v26, v27, v28, v29, v30, v31, v32], defers := [] }
def ops29 (ps : String) : Array Oper := #[{ dst := some 11, op := Op.load 24 (Operand.tmp 4), type := 24, pos := ps, after := #[], guard := none }, { dst := some 12, op := Op.move (Operand.tmp 1), type := 3, pos := ps, after := #[], guard := none }, { dst := some 13, op := Op.call { callee := Callee.value (Operand.func 28), args := #[Operand.tmp 11, Operand.tmp 12, Operand.const (Value.int IntKind.i64 0)], argTypes := #[24, 3, 3] }, type := 31, pos := ps, after := #[{ on := 0, ground := Ground.data }, { on := 1, ground := Ground.data }], guard := none }, { dst := some 14, op := Op.load 24 (Operand.tmp 4), type := 24, pos := ps, after := #[], guard := none }, { dst := some 15, op := Op.move (Operand.tmp 1), type := 3, pos := ps, after := #[], guard := none }, { dst := some 16, op := Op.fieldAddr 24 (Operand.tmp 4) 6, type := 0, pos := ps, after := #[], guard := none }, { dst := some 17, op := Op.load 3 (Operand.tmp 16), type := 3, pos := ps, after := #[{ on := 5, ground := Ground.data }], guard := none }, { dst := some 18, op := Op.binOp BinOp.sub 3 (Operand.tmp 17) (Operand.const (Value.int IntKind.i64 1)) 3, type := 3, pos := ps, after := #[{ on := 6, ground := Ground.data }], guard := none }, { dst := some 19, op := Op.call { callee := Callee.value (Operand.func 28), args := #[Operand.tmp 14, Operand.tmp 15, Operand.tmp 18], argTypes := #[24, 3, 3] }, type := 31, pos := ps, after := #[{ on := 3, ground := Ground.data }, { on := 4, ground := Ground.data }, { on := 7, ground := Ground.data }, { on := 2, ground := Ground.chain }], guard := none }, { dst := some 9, op := Op.alloc 31, type := 0, pos := ps, after := #[], guard := none }, { dst := some 10, op := Op.alloc 31, type := 0, pos := ps, after := #[], guard := none }, { dst := none, op := Op.store 31 (Operand.tmp 9) (Operand.tmp 13), type := 0, pos := ps, after := #[{ on := 9, ground := Ground.data }, { on := 2, ground := Ground.data }, { on := 8, ground := Ground.chain }, { on := 0, ground := Ground.phase }, { on := 1, ground := Ground.phase }, { on := 2, ground := Ground.phase }, { on := 3, ground := Ground.textOnly Departure.lateStores }, { on := 4, ground := Ground.textOnly Departure.lateStores }, { on := 5, ground := Ground.textOnly Departure.lateStores }, { on := 6, ground := Ground.textOnly Departure.lateStores }, { on := 7, ground := Ground.textOnly Departure.lateStores }, { on := 8, ground := Ground.textOnly Departure.lateStoresUnsure }, { on := 9, ground := Ground.phase }, { on := 10, ground := Ground.phase }], guard := none }, { dst := none, op := Op.store 31 (Operand.tmp 10) (Operand.tmp 19), type := 0, pos := ps, after := #[{ on := 10, ground := Ground.data }, { on := 8, ground := Ground.data }, { on := 11, ground := Ground.chain }, { on := 0, ground := Ground.phase }, { on := 1, ground := Ground.phase }, { on := 2, ground := Ground.phase }, { on := 3, ground := Ground.phase }, { on := 4, ground := Ground.phase }, { on := 5, ground := Ground.phase }, { on := 6, ground := Ground.phase }, { on := 7, ground := Ground.phase }, { on := 8, ground := Ground.phase }, { on := 9, ground := Ground.phase }, { on := 10, ground := Ground.phase }, { on := 11, ground := Ground.phase }], guard := none }]

set_option maxRecDepth 100000 in
set_option maxHeartbeats 2000000 in
theorem across_region (Q : Exit → Act → World → Prop) (hQ : ∀ c x (n : Nat) v w, Q (.panic c) (x.put (some n) v) w → Q (.panic c) x w) (id : Nat) (ps : String) {v0 v2 v3 v5 v6 v7 v8 v9 v10 v11 v12 v13 v14 v15 v16 v17 v18 v19 v20 v21 v22 v23 v24 v25 v26 v27 v28 v29 v30 v31 v32 : Value}
    (B : Nat) (s : Sec) (page : Int) (hcols : 1 ≤ s.cols ∧ s.cols ≤ 8)
    (hc0 : ∀ w, Calls Try.prog 28 #[.agg (seC s), .int .i64 page, .int .i64 0] w fun e w' => e = .returned (.agg (rcC (colR s page 0))) ∧ Below w.heap.size w w')
    (hc1 : ∀ w, Calls Try.prog 28 #[.agg (seC s), .int .i64 page, .int .i64 (s.cols - 1)] w fun e w' => e = .returned (.agg (rcC (colR s page (s.cols - 1)))) ∧ Below w.heap.size w w')
    (w0 : World) (hS : SB w0 B s)
    (hq : ∀ (A9 A10 : Nat) w', Below w0.heap.size w0 w' → w'.heap[A9]? = some (.cells (rcC (colR s page 0)) 31 (0, 0)) → w'.heap[A10]? = some (.cells (rcC (colR s page (s.cols - 1))) 31 (0, 0)) → w0.heap.size ≤ A9 → w0.heap.size ≤ A10 → Q .normal (fr29 v0 (.int .i64 page) v2 v3 (.pointer (some ⟨B, 0, none⟩)) v5 v6 v7 v8 (.pointer (some ⟨A9, 0, none⟩)) (.pointer (some ⟨A10, 0, none⟩)) (.agg (seC s)) (.int .i64 page) (.agg (rcC (colR s page 0))) (.agg (seC s)) (.int .i64 page) (.pointer (some ⟨B, 6, none⟩)) (.int .i64 s.cols) (.int .i64 (s.cols - 1)) (.agg (rcC (colR s page (s.cols - 1)))) v20 v21 v22 v23 v24 v25 v26 v27 v28 v29 v30 v31 v32) w') :
    (Code.region id (ops29 ps) true).wp Try.prog Q (fr29 v0 (.int .i64 page) v2 v3 (.pointer (some ⟨B, 0, none⟩)) v5 v6 v7 v8 v9 v10 v11 v12 v13 v14 v15 v16 v17 v18 v19 v20 v21 v22 v23 v24 v25 v26 v27 v28 v29 v30 v31 v32) w0 := by
  have t112 : ∀ (A9 A10 : Nat) (W : World), Below w0.heap.size w0 W → W.heap[A9]? = some (.cells #[.int .i64 0, .int .i64 0, .int .i64 0, .int .i64 0] 31 (0, 0)) → w0.heap.size ≤ A9 → W.heap[A10]? = some (.cells #[.int .i64 0, .int .i64 0, .int .i64 0, .int .i64 0] 31 (0, 0)) → w0.heap.size ≤ A10 → A9 ≠ A10 → wpAnyH Try.prog .any (ops29 ps) Q (fun w => SB w B s) 2 #[true, true, true, true, true, true, true, true, true, true, true, false, false] (fr29 v0 (.int .i64 page) v2 v3 (.pointer (some ⟨B, 0, none⟩)) v5 v6 v7 v8 (.pointer (some ⟨A9, 0, none⟩)) (.pointer (some ⟨A10, 0, none⟩)) (.agg (seC s)) (.int .i64 page) (.agg (rcC (colR s page 0))) (.agg (seC s)) (.int .i64 page) (.pointer (some ⟨B, 6, none⟩)) (.int .i64 s.cols) (.int .i64 (s.cols - 1)) (.agg (rcC (colR s page (s.cols - 1)))) v20 v21 v22 v23 v24 v25 v26 v27 v28 v29 v30 v31 v32) W := by
    intro A9 A10 W hW h9 g9 h10 g10 hne 
    have C0 : SB W B s := hS.below hW hS.lt
    refine want_h (i := 11) (oi := { dst := none, op := Op.store 31 (Operand.tmp 9) (Operand.tmp 13), type := 0, pos := ps, after := #[{ on := 9, ground := Ground.data }, { on := 2, ground := Ground.data }, { on := 8, ground := Ground.chain }, { on := 0, ground := Ground.phase }, { on := 1, ground := Ground.phase }, { on := 2, ground := Ground.phase }, { on := 3, ground := Ground.textOnly Departure.lateStores }, { on := 4, ground := Ground.textOnly Departure.lateStores }, { on := 5, ground := Ground.textOnly Departure.lateStores }, { on := 6, ground := Ground.textOnly Departure.lateStores }, { on := 7, ground := Ground.textOnly Departure.lateStores }, { on := 8, ground := Ground.textOnly Departure.lateStoresUnsure }, { on := 9, ground := Ground.phase }, { on := 10, ground := Ground.phase }], guard := none }) (fuel := 1) (by kernel_rfl) (by kernel_rfl) (by kernel_rfl) fun K hK => ?_
    refine wp_store_row 31 _ _ rfl A9 (rcC (colR s page 0)) rfl rfl 31 _ h9 (info31 _) rfl (rcC_one _) ?_
    have E1 := below_setRow hW g9 (rcC (colR s page 0))
    have x9 := setRow_same W h9 (rcC (colR s page 0))
    have x10 := (setRow_other W (Ne.symm hne) (rcC (colR s page 0))).trans h10
    have C1 : SB (W.setRow A9 (rcC (colR s page 0))) B s := hS.below E1 hS.lt
    refine hK _ _ C1 (cast_h (fr29 v0 (.int .i64 page) v2 v3 (.pointer (some ⟨B, 0, none⟩)) v5 v6 v7 v8 (.pointer (some ⟨A9, 0, none⟩)) (.pointer (some ⟨A10, 0, none⟩)) (.agg (seC s)) (.int .i64 page) (.agg (rcC (colR s page 0))) (.agg (seC s)) (.int .i64 page) (.pointer (some ⟨B, 6, none⟩)) (.int .i64 s.cols) (.int .i64 (s.cols - 1)) (.agg (rcC (colR s page (s.cols - 1)))) v20 v21 v22 v23 v24 v25 v26 v27 v28 v29 v30 v31 v32) (by kernel_rfl) ?_)
    clear hK K
    refine want_h (i := 12) (oi := { dst := none, op := Op.store 31 (Operand.tmp 10) (Operand.tmp 19), type := 0, pos := ps, after := #[{ on := 10, ground := Ground.data }, { on := 8, ground := Ground.data }, { on := 11, ground := Ground.chain }, { on := 0, ground := Ground.phase }, { on := 1, ground := Ground.phase }, { on := 2, ground := Ground.phase }, { on := 3, ground := Ground.phase }, { on := 4, ground := Ground.phase }, { on := 5, ground := Ground.phase }, { on := 6, ground := Ground.phase }, { on := 7, ground := Ground.phase }, { on := 8, ground := Ground.phase }, { on := 9, ground := Ground.phase }, { on := 10, ground := Ground.phase }, { on := 11, ground := Ground.phase }], guard := none }) (fuel := 0) (by kernel_rfl) (by kernel_rfl) (by kernel_rfl) fun K hK => ?_
    refine wp_store_row 31 _ _ rfl A10 (rcC (colR s page (s.cols - 1))) rfl rfl 31 _ x10 (info31 _) rfl (rcC_one _) ?_
    have E2 := below_setRow E1 g10 (rcC (colR s page (s.cols - 1)))
    have y10 := setRow_same _ x10 (rcC (colR s page (s.cols - 1)))
    have y9 := (setRow_other (W.setRow A9 (rcC (colR s page 0))) hne (rcC (colR s page (s.cols - 1)))).trans x9
    have C2 : SB ((W.setRow A9 (rcC (colR s page 0))).setRow A10 (rcC (colR s page (s.cols - 1)))) B s := hS.below E2 hS.lt
    refine hK _ _ C2 (cast_h (fr29 v0 (.int .i64 page) v2 v3 (.pointer (some ⟨B, 0, none⟩)) v5 v6 v7 v8 (.pointer (some ⟨A9, 0, none⟩)) (.pointer (some ⟨A10, 0, none⟩)) (.agg (seC s)) (.int .i64 page) (.agg (rcC (colR s page 0))) (.agg (seC s)) (.int .i64 page) (.pointer (some ⟨B, 6, none⟩)) (.int .i64 s.cols) (.int .i64 (s.cols - 1)) (.agg (rcC (colR s page (s.cols - 1)))) v20 v21 v22 v23 v24 v25 v26 v27 v28 v29 v30 v31 v32) (by kernel_rfl) ?_)
    clear hK K
    exact wpAnyH_done (by kernel_rfl) (hq A9 A10 _ E2 y9 y10 g9 g10) _
  have t102 : ∀ (A9 : Nat) (W : World), Below w0.heap.size w0 W → W.heap[A9]? = some (.cells #[.int .i64 0, .int .i64 0, .int .i64 0, .int .i64 0] 31 (0, 0)) → w0.heap.size ≤ A9 → wpAnyH Try.prog .any (ops29 ps) Q (fun w => SB w B s) 3 #[true, true, true, true, true, true, true, true, true, true, false, false, false] (fr29 v0 (.int .i64 page) v2 v3 (.pointer (some ⟨B, 0, none⟩)) v5 v6 v7 v8 (.pointer (some ⟨A9, 0, none⟩)) v10 (.agg (seC s)) (.int .i64 page) (.agg (rcC (colR s page 0))) (.agg (seC s)) (.int .i64 page) (.pointer (some ⟨B, 6, none⟩)) (.int .i64 s.cols) (.int .i64 (s.cols - 1)) (.agg (rcC (colR s page (s.cols - 1)))) v20 v21 v22 v23 v24 v25 v26 v27 v28 v29 v30 v31 v32) W := by
    intro A9 W hW h9 g9 
    have C0 : SB W B s := hS.below hW hS.lt
    refine want_h (i := 10) (oi := { dst := some 10, op := Op.alloc 31, type := 0, pos := ps, after := #[], guard := none }) (fuel := 2) (by kernel_rfl) (by kernel_rfl) (by kernel_rfl) (fun K hK => ?_)
    · unfold fr29
      go_simp
      have hW1 := hW.alloc hW.size (Obj.cells #[.int .i64 0, .int .i64 0, .int .i64 0, .int .i64 0] 31)
      refine hK _ _ (hS.below hW1 hS.lt) (cast_h (fr29 v0 (.int .i64 page) v2 v3 (.pointer (some ⟨B, 0, none⟩)) v5 v6 v7 v8 (.pointer (some ⟨A9, 0, none⟩)) (.pointer (some ⟨W.heap.size, 0, none⟩)) (.agg (seC s)) (.int .i64 page) (.agg (rcC (colR s page 0))) (.agg (seC s)) (.int .i64 page) (.pointer (some ⟨B, 6, none⟩)) (.int .i64 s.cols) (.int .i64 (s.cols - 1)) (.agg (rcC (colR s page (s.cols - 1)))) v20 v21 v22 v23 v24 v25 v26 v27 v28 v29 v30 v31 v32) (by kernel_rfl) ?_)
      refine list_h #[true, true, true, true, true, true, true, true, true, true, true, false, false] (by kernel_rfl) ?_
      exact t112 A9 W.heap.size _ hW1 ((heap_old W _ (Array.getElem?_eq_some_iff.1 h9).1).trans h9) g9 (heap_new W _) hW.size (Nat.ne_of_lt (Array.getElem?_eq_some_iff.1 h9).1)
  have t012 : ∀ (A10 : Nat) (W : World), Below w0.heap.size w0 W → W.heap[A10]? = some (.cells #[.int .i64 0, .int .i64 0, .int .i64 0, .int .i64 0] 31 (0, 0)) → w0.heap.size ≤ A10 → wpAnyH Try.prog .any (ops29 ps) Q (fun w => SB w B s) 3 #[true, true, true, true, true, true, true, true, true, false, true, false, false] (fr29 v0 (.int .i64 page) v2 v3 (.pointer (some ⟨B, 0, none⟩)) v5 v6 v7 v8 v9 (.pointer (some ⟨A10, 0, none⟩)) (.agg (seC s)) (.int .i64 page) (.agg (rcC (colR s page 0))) (.agg (seC s)) (.int .i64 page) (.pointer (some ⟨B, 6, none⟩)) (.int .i64 s.cols) (.int .i64 (s.cols - 1)) (.agg (rcC (colR s page (s.cols - 1)))) v20 v21 v22 v23 v24 v25 v26 v27 v28 v29 v30 v31 v32) W := by
    intro A10 W hW h10 g10 
    have C0 : SB W B s := hS.below hW hS.lt
    refine want_h (i := 9) (oi := { dst := some 9, op := Op.alloc 31, type := 0, pos := ps, after := #[], guard := none }) (fuel := 2) (by kernel_rfl) (by kernel_rfl) (by kernel_rfl) (fun K hK => ?_)
    · unfold fr29
      go_simp
      have hW1 := hW.alloc hW.size (Obj.cells #[.int .i64 0, .int .i64 0, .int .i64 0, .int .i64 0] 31)
      refine hK _ _ (hS.below hW1 hS.lt) (cast_h (fr29 v0 (.int .i64 page) v2 v3 (.pointer (some ⟨B, 0, none⟩)) v5 v6 v7 v8 (.pointer (some ⟨W.heap.size, 0, none⟩)) (.pointer (some ⟨A10, 0, none⟩)) (.agg (seC s)) (.int .i64 page) (.agg (rcC (colR s page 0))) (.agg (seC s)) (.int .i64 page) (.pointer (some ⟨B, 6, none⟩)) (.int .i64 s.cols) (.int .i64 (s.cols - 1)) (.agg (rcC (colR s page (s.cols - 1)))) v20 v21 v22 v23 v24 v25 v26 v27 v28 v29 v30 v31 v32) (by kernel_rfl) ?_)
      refine list_h #[true, true, true, true, true, true, true, true, true, true, true, false, false] (by kernel_rfl) ?_
      exact t112 W.heap.size A10 _ hW1 (heap_new W _) hW.size ((heap_old W _ (Array.getElem?_eq_some_iff.1 h10).1).trans h10) g10 (Ne.symm (Nat.ne_of_lt (Array.getElem?_eq_some_iff.1 h10).1))
  have t002 : ∀ (W : World), Below w0.heap.size w0 W → wpAnyH Try.prog .any (ops29 ps) Q (fun w => SB w B s) 4 #[true, true, true, true, true, true, true, true, true, false, false, false, false] (fr29 v0 (.int .i64 page) v2 v3 (.pointer (some ⟨B, 0, none⟩)) v5 v6 v7 v8 v9 v10 (.agg (seC s)) (.int .i64 page) (.agg (rcC (colR s page 0))) (.agg (seC s)) (.int .i64 page) (.pointer (some ⟨B, 6, none⟩)) (.int .i64 s.cols) (.int .i64 (s.cols - 1)) (.agg (rcC (colR s page (s.cols - 1)))) v20 v21 v22 v23 v24 v25 v26 v27 v28 v29 v30 v31 v32) W := by
    intro W hW 
    have C0 : SB W B s := hS.below hW hS.lt
    refine two_h (i := 9) (j := 10) (oi := { dst := some 9, op := Op.alloc 31, type := 0, pos := ps, after := #[], guard := none }) (oj := { dst := some 10, op := Op.alloc 31, type := 0, pos := ps, after := #[], guard := none }) (fuel := 3) (by kernel_rfl) (by kernel_rfl) (by kernel_rfl) (by kernel_rfl) (by kernel_rfl) (fun K hK => ?_) (fun K hK => ?_)
    · unfold fr29
      go_simp
      have hW1 := hW.alloc hW.size (Obj.cells #[.int .i64 0, .int .i64 0, .int .i64 0, .int .i64 0] 31)
      refine hK _ _ (hS.below hW1 hS.lt) (cast_h (fr29 v0 (.int .i64 page) v2 v3 (.pointer (some ⟨B, 0, none⟩)) v5 v6 v7 v8 (.pointer (some ⟨W.heap.size, 0, none⟩)) v10 (.agg (seC s)) (.int .i64 page) (.agg (rcC (colR s page 0))) (.agg (seC s)) (.int .i64 page) (.pointer (some ⟨B, 6, none⟩)) (.int .i64 s.cols) (.int .i64 (s.cols - 1)) (.agg (rcC (colR s page (s.cols - 1)))) v20 v21 v22 v23 v24 v25 v26 v27 v28 v29 v30 v31 v32) (by kernel_rfl) ?_)
      refine list_h #[true, true, true, true, true, true, true, true, true, true, false, false, false] (by kernel_rfl) ?_
      exact t102 W.heap.size _ hW1 (heap_new W _) hW.size
    · unfold fr29
      go_simp
      have hW1 := hW.alloc hW.size (Obj.cells #[.int .i64 0, .int .i64 0, .int .i64 0, .int .i64 0] 31)
      refine hK _ _ (hS.below hW1 hS.lt) (cast_h (fr29 v0 (.int .i64 page) v2 v3 (.pointer (some ⟨B, 0, none⟩)) v5 v6 v7 v8 v9 (.pointer (some ⟨W.heap.size, 0, none⟩)) (.agg (seC s)) (.int .i64 page) (.agg (rcC (colR s page 0))) (.agg (seC s)) (.int .i64 page) (.pointer (some ⟨B, 6, none⟩)) (.int .i64 s.cols) (.int .i64 (s.cols - 1)) (.agg (rcC (colR s page (s.cols - 1)))) v20 v21 v22 v23 v24 v25 v26 v27 v28 v29 v30 v31 v32) (by kernel_rfl) ?_)
      refine list_h #[true, true, true, true, true, true, true, true, true, false, true, false, false] (by kernel_rfl) ?_
      exact t012 W.heap.size _ hW1 (heap_new W _) hW.size
  have t111 : ∀ (A9 A10 : Nat) (W : World), Below w0.heap.size w0 W → W.heap[A9]? = some (.cells #[.int .i64 0, .int .i64 0, .int .i64 0, .int .i64 0] 31 (0, 0)) → w0.heap.size ≤ A9 → W.heap[A10]? = some (.cells #[.int .i64 0, .int .i64 0, .int .i64 0, .int .i64 0] 31 (0, 0)) → w0.heap.size ≤ A10 → A9 ≠ A10 → wpAnyH Try.prog .any (ops29 ps) Q (fun w => SB w B s) 3 #[true, true, true, true, true, true, true, true, false, true, true, false, false] (fr29 v0 (.int .i64 page) v2 v3 (.pointer (some ⟨B, 0, none⟩)) v5 v6 v7 v8 (.pointer (some ⟨A9, 0, none⟩)) (.pointer (some ⟨A10, 0, none⟩)) (.agg (seC s)) (.int .i64 page) (.agg (rcC (colR s page 0))) (.agg (seC s)) (.int .i64 page) (.pointer (some ⟨B, 6, none⟩)) (.int .i64 s.cols) (.int .i64 (s.cols - 1)) v19 v20 v21 v22 v23 v24 v25 v26 v27 v28 v29 v30 v31 v32) W := by
    intro A9 A10 W hW h9 g9 h10 g10 hne 
    have C0 : SB W B s := hS.below hW hS.lt
    refine want_h (i := 8) (oi := { dst := some 19, op := Op.call { callee := Callee.value (Operand.func 28), args := #[Operand.tmp 14, Operand.tmp 15, Operand.tmp 18], argTypes := #[24, 3, 3] }, type := 31, pos := ps, after := #[{ on := 3, ground := Ground.data }, { on := 4, ground := Ground.data }, { on := 7, ground := Ground.data }, { on := 2, ground := Ground.chain }], guard := none }) (fuel := 2) (by kernel_rfl) (by kernel_rfl) (by kernel_rfl) (fun K hK => ?_)
    · unfold fr29
      go_simp
      refine (hc1 W).mono ?_
      rintro e W1 ⟨rfl, B1⟩
      have hW1 := hW.trans (B1.mono hW.size)
      refine hK _ _ (hS.below hW1 hS.lt) (cast_h (fr29 v0 (.int .i64 page) v2 v3 (.pointer (some ⟨B, 0, none⟩)) v5 v6 v7 v8 (.pointer (some ⟨A9, 0, none⟩)) (.pointer (some ⟨A10, 0, none⟩)) (.agg (seC s)) (.int .i64 page) (.agg (rcC (colR s page 0))) (.agg (seC s)) (.int .i64 page) (.pointer (some ⟨B, 6, none⟩)) (.int .i64 s.cols) (.int .i64 (s.cols - 1)) (.agg (rcC (colR s page (s.cols - 1)))) v20 v21 v22 v23 v24 v25 v26 v27 v28 v29 v30 v31 v32) (by kernel_rfl) ?_)
      refine list_h #[true, true, true, true, true, true, true, true, true, true, true, false, false] (by kernel_rfl) ?_
      exact t112 A9 A10 W1 hW1 ((B1.block A9 (Array.getElem?_eq_some_iff.1 h9).1).trans h9) g9 ((B1.block A10 (Array.getElem?_eq_some_iff.1 h10).1).trans h10) g10 hne
  have t101 : ∀ (A9 : Nat) (W : World), Below w0.heap.size w0 W → W.heap[A9]? = some (.cells #[.int .i64 0, .int .i64 0, .int .i64 0, .int .i64 0] 31 (0, 0)) → w0.heap.size ≤ A9 → wpAnyH Try.prog .any (ops29 ps) Q (fun w => SB w B s) 4 #[true, true, true, true, true, true, true, true, false, true, false, false, false] (fr29 v0 (.int .i64 page) v2 v3 (.pointer (some ⟨B, 0, none⟩)) v5 v6 v7 v8 (.pointer (some ⟨A9, 0, none⟩)) v10 (.agg (seC s)) (.int .i64 page) (.agg (rcC (colR s page 0))) (.agg (seC s)) (.int .i64 page) (.pointer (some ⟨B, 6, none⟩)) (.int .i64 s.cols) (.int .i64 (s.cols - 1)) v19 v20 v21 v22 v23 v24 v25 v26 v27 v28 v29 v30 v31 v32) W := by
    intro A9 W hW h9 g9 
    have C0 : SB W B s := hS.below hW hS.lt
    refine two_h (i := 8) (j := 10) (oi := { dst := some 19, op := Op.call { callee := Callee.value (Operand.func 28), args := #[Operand.tmp 14, Operand.tmp 15, Operand.tmp 18], argTypes := #[24, 3, 3] }, type := 31, pos := ps, after := #[{ on := 3, ground := Ground.data }, { on := 4, ground := Ground.data }, { on := 7, ground := Ground.data }, { on := 2, ground := Ground.chain }], guard := none }) (oj := { dst := some 10, op := Op.alloc 31, type := 0, pos := ps, after := #[], guard := none }) (fuel := 3) (by kernel_rfl) (by kernel_rfl) (by kernel_rfl) (by kernel_rfl) (by kernel_rfl) (fun K hK => ?_) (fun K hK => ?_)
    · unfold fr29
      go_simp
      refine (hc1 W).mono ?_
      rintro e W1 ⟨rfl, B1⟩
      have hW1 := hW.trans (B1.mono hW.size)
      refine hK _ _ (hS.below hW1 hS.lt) (cast_h (fr29 v0 (.int .i64 page) v2 v3 (.pointer (some ⟨B, 0, none⟩)) v5 v6 v7 v8 (.pointer (some ⟨A9, 0, none⟩)) v10 (.agg (seC s)) (.int .i64 page) (.agg (rcC (colR s page 0))) (.agg (seC s)) (.int .i64 page) (.pointer (some ⟨B, 6, none⟩)) (.int .i64 s.cols) (.int .i64 (s.cols - 1)) (.agg (rcC (colR s page (s.cols - 1)))) v20 v21 v22 v23 v24 v25 v26 v27 v28 v29 v30 v31 v32) (by kernel_rfl) ?_)
      refine list_h #[true, true, true, true, true, true, true, true, true, true, false, false, false] (by kernel_rfl) ?_
      exact t102 A9 W1 hW1 ((B1.block A9 (Array.getElem?_eq_some_iff.1 h9).1).trans h9) g9
    · unfold fr29
      go_simp
      have hW1 := hW.alloc hW.size (Obj.cells #[.int .i64 0, .int .i64 0, .int .i64 0, .int .i64 0] 31)
      refine hK _ _ (hS.below hW1 hS.lt) (cast_h (fr29 v0 (.int .i64 page) v2 v3 (.pointer (some ⟨B, 0, none⟩)) v5 v6 v7 v8 (.pointer (some ⟨A9, 0, none⟩)) (.pointer (some ⟨W.heap.size, 0, none⟩)) (.agg (seC s)) (.int .i64 page) (.agg (rcC (colR s page 0))) (.agg (seC s)) (.int .i64 page) (.pointer (some ⟨B, 6, none⟩)) (.int .i64 s.cols) (.int .i64 (s.cols - 1)) v19 v20 v21 v22 v23 v24 v25 v26 v27 v28 v29 v30 v31 v32) (by kernel_rfl) ?_)
      refine list_h #[true, true, true, true, true, true, true, true, false, true, true, false, false] (by kernel_rfl) ?_
      exact t111 A9 W.heap.size _ hW1 ((heap_old W _ (Array.getElem?_eq_some_iff.1 h9).1).trans h9) g9 (heap_new W _) hW.size (Nat.ne_of_lt (Array.getElem?_eq_some_iff.1 h9).1)
  have t011 : ∀ (A10 : Nat) (W : World), Below w0.heap.size w0 W → W.heap[A10]? = some (.cells #[.int .i64 0, .int .i64 0, .int .i64 0, .int .i64 0] 31 (0, 0)) → w0.heap.size ≤ A10 → wpAnyH Try.prog .any (ops29 ps) Q (fun w => SB w B s) 4 #[true, true, true, true, true, true, true, true, false, false, true, false, false] (fr29 v0 (.int .i64 page) v2 v3 (.pointer (some ⟨B, 0, none⟩)) v5 v6 v7 v8 v9 (.pointer (some ⟨A10, 0, none⟩)) (.agg (seC s)) (.int .i64 page) (.agg (rcC (colR s page 0))) (.agg (seC s)) (.int .i64 page) (.pointer (some ⟨B, 6, none⟩)) (.int .i64 s.cols) (.int .i64 (s.cols - 1)) v19 v20 v21 v22 v23 v24 v25 v26 v27 v28 v29 v30 v31 v32) W := by
    intro A10 W hW h10 g10 
    have C0 : SB W B s := hS.below hW hS.lt
    refine two_h (i := 8) (j := 9) (oi := { dst := some 19, op := Op.call { callee := Callee.value (Operand.func 28), args := #[Operand.tmp 14, Operand.tmp 15, Operand.tmp 18], argTypes := #[24, 3, 3] }, type := 31, pos := ps, after := #[{ on := 3, ground := Ground.data }, { on := 4, ground := Ground.data }, { on := 7, ground := Ground.data }, { on := 2, ground := Ground.chain }], guard := none }) (oj := { dst := some 9, op := Op.alloc 31, type := 0, pos := ps, after := #[], guard := none }) (fuel := 3) (by kernel_rfl) (by kernel_rfl) (by kernel_rfl) (by kernel_rfl) (by kernel_rfl) (fun K hK => ?_) (fun K hK => ?_)
    · unfold fr29
      go_simp
      refine (hc1 W).mono ?_
      rintro e W1 ⟨rfl, B1⟩
      have hW1 := hW.trans (B1.mono hW.size)
      refine hK _ _ (hS.below hW1 hS.lt) (cast_h (fr29 v0 (.int .i64 page) v2 v3 (.pointer (some ⟨B, 0, none⟩)) v5 v6 v7 v8 v9 (.pointer (some ⟨A10, 0, none⟩)) (.agg (seC s)) (.int .i64 page) (.agg (rcC (colR s page 0))) (.agg (seC s)) (.int .i64 page) (.pointer (some ⟨B, 6, none⟩)) (.int .i64 s.cols) (.int .i64 (s.cols - 1)) (.agg (rcC (colR s page (s.cols - 1)))) v20 v21 v22 v23 v24 v25 v26 v27 v28 v29 v30 v31 v32) (by kernel_rfl) ?_)
      refine list_h #[true, true, true, true, true, true, true, true, true, false, true, false, false] (by kernel_rfl) ?_
      exact t012 A10 W1 hW1 ((B1.block A10 (Array.getElem?_eq_some_iff.1 h10).1).trans h10) g10
    · unfold fr29
      go_simp
      have hW1 := hW.alloc hW.size (Obj.cells #[.int .i64 0, .int .i64 0, .int .i64 0, .int .i64 0] 31)
      refine hK _ _ (hS.below hW1 hS.lt) (cast_h (fr29 v0 (.int .i64 page) v2 v3 (.pointer (some ⟨B, 0, none⟩)) v5 v6 v7 v8 (.pointer (some ⟨W.heap.size, 0, none⟩)) (.pointer (some ⟨A10, 0, none⟩)) (.agg (seC s)) (.int .i64 page) (.agg (rcC (colR s page 0))) (.agg (seC s)) (.int .i64 page) (.pointer (some ⟨B, 6, none⟩)) (.int .i64 s.cols) (.int .i64 (s.cols - 1)) v19 v20 v21 v22 v23 v24 v25 v26 v27 v28 v29 v30 v31 v32) (by kernel_rfl) ?_)
      refine list_h #[true, true, true, true, true, true, true, true, false, true, true, false, false] (by kernel_rfl) ?_
      exact t111 W.heap.size A10 _ hW1 (heap_new W _) hW.size ((heap_old W _ (Array.getElem?_eq_some_iff.1 h10).1).trans h10) g10 (Ne.symm (Nat.ne_of_lt (Array.getElem?_eq_some_iff.1 h10).1))
  have t001 : ∀ (W : World), Below w0.heap.size w0 W → wpAnyH Try.prog .any (ops29 ps) Q (fun w => SB w B s) 5 #[true, true, true, true, true, true, true, true, false, false, false, false, false] (fr29 v0 (.int .i64 page) v2 v3 (.pointer (some ⟨B, 0, none⟩)) v5 v6 v7 v8 v9 v10 (.agg (seC s)) (.int .i64 page) (.agg (rcC (colR s page 0))) (.agg (seC s)) (.int .i64 page) (.pointer (some ⟨B, 6, none⟩)) (.int .i64 s.cols) (.int .i64 (s.cols - 1)) v19 v20 v21 v22 v23 v24 v25 v26 v27 v28 v29 v30 v31 v32) W := by
    intro W hW 
    have C0 : SB W B s := hS.below hW hS.lt
    refine three_h (i := 8) (j := 9) (l := 10) (oi := { dst := some 19, op := Op.call { callee := Callee.value (Operand.func 28), args := #[Operand.tmp 14, Operand.tmp 15, Operand.tmp 18], argTypes := #[24, 3, 3] }, type := 31, pos := ps, after := #[{ on := 3, ground := Ground.data }, { on := 4, ground := Ground.data }, { on := 7, ground := Ground.data }, { on := 2, ground := Ground.chain }], guard := none }) (oj := { dst := some 9, op := Op.alloc 31, type := 0, pos := ps, after := #[], guard := none }) (ol := { dst := some 10, op := Op.alloc 31, type := 0, pos := ps, after := #[], guard := none }) (fuel := 4) (by kernel_rfl) (by kernel_rfl) (by kernel_rfl) (by kernel_rfl) (by kernel_rfl) (by kernel_rfl) (by kernel_rfl) (fun K hK => ?_) (fun K hK => ?_) (fun K hK => ?_)
    · unfold fr29
      go_simp
      refine (hc1 W).mono ?_
      rintro e W1 ⟨rfl, B1⟩
      have hW1 := hW.trans (B1.mono hW.size)
      refine hK _ _ (hS.below hW1 hS.lt) (cast_h (fr29 v0 (.int .i64 page) v2 v3 (.pointer (some ⟨B, 0, none⟩)) v5 v6 v7 v8 v9 v10 (.agg (seC s)) (.int .i64 page) (.agg (rcC (colR s page 0))) (.agg (seC s)) (.int .i64 page) (.pointer (some ⟨B, 6, none⟩)) (.int .i64 s.cols) (.int .i64 (s.cols - 1)) (.agg (rcC (colR s page (s.cols - 1)))) v20 v21 v22 v23 v24 v25 v26 v27 v28 v29 v30 v31 v32) (by kernel_rfl) ?_)
      refine list_h #[true, true, true, true, true, true, true, true, true, false, false, false, false] (by kernel_rfl) ?_
      exact t002 W1 hW1
    · unfold fr29
      go_simp
      have hW1 := hW.alloc hW.size (Obj.cells #[.int .i64 0, .int .i64 0, .int .i64 0, .int .i64 0] 31)
      refine hK _ _ (hS.below hW1 hS.lt) (cast_h (fr29 v0 (.int .i64 page) v2 v3 (.pointer (some ⟨B, 0, none⟩)) v5 v6 v7 v8 (.pointer (some ⟨W.heap.size, 0, none⟩)) v10 (.agg (seC s)) (.int .i64 page) (.agg (rcC (colR s page 0))) (.agg (seC s)) (.int .i64 page) (.pointer (some ⟨B, 6, none⟩)) (.int .i64 s.cols) (.int .i64 (s.cols - 1)) v19 v20 v21 v22 v23 v24 v25 v26 v27 v28 v29 v30 v31 v32) (by kernel_rfl) ?_)
      refine list_h #[true, true, true, true, true, true, true, true, false, true, false, false, false] (by kernel_rfl) ?_
      exact t101 W.heap.size _ hW1 (heap_new W _) hW.size
    · unfold fr29
      go_simp
      have hW1 := hW.alloc hW.size (Obj.cells #[.int .i64 0, .int .i64 0, .int .i64 0, .int .i64 0] 31)
      refine hK _ _ (hS.below hW1 hS.lt) (cast_h (fr29 v0 (.int .i64 page) v2 v3 (.pointer (some ⟨B, 0, none⟩)) v5 v6 v7 v8 v9 (.pointer (some ⟨W.heap.size, 0, none⟩)) (.agg (seC s)) (.int .i64 page) (.agg (rcC (colR s page 0))) (.agg (seC s)) (.int .i64 page) (.pointer (some ⟨B, 6, none⟩)) (.int .i64 s.cols) (.int .i64 (s.cols - 1)) v19 v20 v21 v22 v23 v24 v25 v26 v27 v28 v29 v30 v31 v32) (by kernel_rfl) ?_)
      refine list_h #[true, true, true, true, true, true, true, true, false, false, true, false, false] (by kernel_rfl) ?_
      exact t011 W.heap.size _ hW1 (heap_new W _) hW.size
  have t110 : ∀ (A9 A10 : Nat) (W : World), Below w0.heap.size w0 W → W.heap[A9]? = some (.cells #[.int .i64 0, .int .i64 0, .int .i64 0, .int .i64 0] 31 (0, 0)) → w0.heap.size ≤ A9 → W.heap[A10]? = some (.cells #[.int .i64 0, .int .i64 0, .int .i64 0, .int .i64 0] 31 (0, 0)) → w0.heap.size ≤ A10 → A9 ≠ A10 → wpAnyH Try.prog .any (ops29 ps) Q (fun w => SB w B s) 4 #[true, true, false, true, true, true, true, true, false, true, true, false, false] (fr29 v0 (.int .i64 page) v2 v3 (.pointer (some ⟨B, 0, none⟩)) v5 v6 v7 v8 (.pointer (some ⟨A9, 0, none⟩)) (.pointer (some ⟨A10, 0, none⟩)) (.agg (seC s)) (.int .i64 page) v13 (.agg (seC s)) (.int .i64 page) (.pointer (some ⟨B, 6, none⟩)) (.int .i64 s.cols) (.int .i64 (s.cols - 1)) v19 v20 v21 v22 v23 v24 v25 v26 v27 v28 v29 v30 v31 v32) W := by
    intro A9 A10 W hW h9 g9 h10 g10 hne 
    have C0 : SB W B s := hS.below hW hS.lt
    refine want_h (i := 2) (oi := { dst := some 13, op := Op.call { callee := Callee.value (Operand.func 28), args := #[Operand.tmp 11, Operand.tmp 12, Operand.const (Value.int IntKind.i64 0)], argTypes := #[24, 3, 3] }, type := 31, pos := ps, after := #[{ on := 0, ground := Ground.data }, { on := 1, ground := Ground.data }], guard := none }) (fuel := 3) (by kernel_rfl) (by kernel_rfl) (by kernel_rfl) (fun K hK => ?_)
    · unfold fr29
      go_simp
      refine (hc0 W).mono ?_
      rintro e W1 ⟨rfl, B1⟩
      have hW1 := hW.trans (B1.mono hW.size)
      refine hK _ _ (hS.below hW1 hS.lt) (cast_h (fr29 v0 (.int .i64 page) v2 v3 (.pointer (some ⟨B, 0, none⟩)) v5 v6 v7 v8 (.pointer (some ⟨A9, 0, none⟩)) (.pointer (some ⟨A10, 0, none⟩)) (.agg (seC s)) (.int .i64 page) (.agg (rcC (colR s page 0))) (.agg (seC s)) (.int .i64 page) (.pointer (some ⟨B, 6, none⟩)) (.int .i64 s.cols) (.int .i64 (s.cols - 1)) v19 v20 v21 v22 v23 v24 v25 v26 v27 v28 v29 v30 v31 v32) (by kernel_rfl) ?_)
      refine list_h #[true, true, true, true, true, true, true, true, false, true, true, false, false] (by kernel_rfl) ?_
      exact t111 A9 A10 W1 hW1 ((B1.block A9 (Array.getElem?_eq_some_iff.1 h9).1).trans h9) g9 ((B1.block A10 (Array.getElem?_eq_some_iff.1 h10).1).trans h10) g10 hne
  have t100 : ∀ (A9 : Nat) (W : World), Below w0.heap.size w0 W → W.heap[A9]? = some (.cells #[.int .i64 0, .int .i64 0, .int .i64 0, .int .i64 0] 31 (0, 0)) → w0.heap.size ≤ A9 → wpAnyH Try.prog .any (ops29 ps) Q (fun w => SB w B s) 5 #[true, true, false, true, true, true, true, true, false, true, false, false, false] (fr29 v0 (.int .i64 page) v2 v3 (.pointer (some ⟨B, 0, none⟩)) v5 v6 v7 v8 (.pointer (some ⟨A9, 0, none⟩)) v10 (.agg (seC s)) (.int .i64 page) v13 (.agg (seC s)) (.int .i64 page) (.pointer (some ⟨B, 6, none⟩)) (.int .i64 s.cols) (.int .i64 (s.cols - 1)) v19 v20 v21 v22 v23 v24 v25 v26 v27 v28 v29 v30 v31 v32) W := by
    intro A9 W hW h9 g9 
    have C0 : SB W B s := hS.below hW hS.lt
    refine two_h (i := 2) (j := 10) (oi := { dst := some 13, op := Op.call { callee := Callee.value (Operand.func 28), args := #[Operand.tmp 11, Operand.tmp 12, Operand.const (Value.int IntKind.i64 0)], argTypes := #[24, 3, 3] }, type := 31, pos := ps, after := #[{ on := 0, ground := Ground.data }, { on := 1, ground := Ground.data }], guard := none }) (oj := { dst := some 10, op := Op.alloc 31, type := 0, pos := ps, after := #[], guard := none }) (fuel := 4) (by kernel_rfl) (by kernel_rfl) (by kernel_rfl) (by kernel_rfl) (by kernel_rfl) (fun K hK => ?_) (fun K hK => ?_)
    · unfold fr29
      go_simp
      refine (hc0 W).mono ?_
      rintro e W1 ⟨rfl, B1⟩
      have hW1 := hW.trans (B1.mono hW.size)
      refine hK _ _ (hS.below hW1 hS.lt) (cast_h (fr29 v0 (.int .i64 page) v2 v3 (.pointer (some ⟨B, 0, none⟩)) v5 v6 v7 v8 (.pointer (some ⟨A9, 0, none⟩)) v10 (.agg (seC s)) (.int .i64 page) (.agg (rcC (colR s page 0))) (.agg (seC s)) (.int .i64 page) (.pointer (some ⟨B, 6, none⟩)) (.int .i64 s.cols) (.int .i64 (s.cols - 1)) v19 v20 v21 v22 v23 v24 v25 v26 v27 v28 v29 v30 v31 v32) (by kernel_rfl) ?_)
      refine list_h #[true, true, true, true, true, true, true, true, false, true, false, false, false] (by kernel_rfl) ?_
      exact t101 A9 W1 hW1 ((B1.block A9 (Array.getElem?_eq_some_iff.1 h9).1).trans h9) g9
    · unfold fr29
      go_simp
      have hW1 := hW.alloc hW.size (Obj.cells #[.int .i64 0, .int .i64 0, .int .i64 0, .int .i64 0] 31)
      refine hK _ _ (hS.below hW1 hS.lt) (cast_h (fr29 v0 (.int .i64 page) v2 v3 (.pointer (some ⟨B, 0, none⟩)) v5 v6 v7 v8 (.pointer (some ⟨A9, 0, none⟩)) (.pointer (some ⟨W.heap.size, 0, none⟩)) (.agg (seC s)) (.int .i64 page) v13 (.agg (seC s)) (.int .i64 page) (.pointer (some ⟨B, 6, none⟩)) (.int .i64 s.cols) (.int .i64 (s.cols - 1)) v19 v20 v21 v22 v23 v24 v25 v26 v27 v28 v29 v30 v31 v32) (by kernel_rfl) ?_)
      refine list_h #[true, true, false, true, true, true, true, true, false, true, true, false, false] (by kernel_rfl) ?_
      exact t110 A9 W.heap.size _ hW1 ((heap_old W _ (Array.getElem?_eq_some_iff.1 h9).1).trans h9) g9 (heap_new W _) hW.size (Nat.ne_of_lt (Array.getElem?_eq_some_iff.1 h9).1)
  have t010 : ∀ (A10 : Nat) (W : World), Below w0.heap.size w0 W → W.heap[A10]? = some (.cells #[.int .i64 0, .int .i64 0, .int .i64 0, .int .i64 0] 31 (0, 0)) → w0.heap.size ≤ A10 → wpAnyH Try.prog .any (ops29 ps) Q (fun w => SB w B s) 5 #[true, true, false, true, true, true, true, true, false, false, true, false, false] (fr29 v0 (.int .i64 page) v2 v3 (.pointer (some ⟨B, 0, none⟩)) v5 v6 v7 v8 v9 (.pointer (some ⟨A10, 0, none⟩)) (.agg (seC s)) (.int .i64 page) v13 (.agg (seC s)) (.int .i64 page) (.pointer (some ⟨B, 6, none⟩)) (.int .i64 s.cols) (.int .i64 (s.cols - 1)) v19 v20 v21 v22 v23 v24 v25 v26 v27 v28 v29 v30 v31 v32) W := by
    intro A10 W hW h10 g10 
    have C0 : SB W B s := hS.below hW hS.lt
    refine two_h (i := 2) (j := 9) (oi := { dst := some 13, op := Op.call { callee := Callee.value (Operand.func 28), args := #[Operand.tmp 11, Operand.tmp 12, Operand.const (Value.int IntKind.i64 0)], argTypes := #[24, 3, 3] }, type := 31, pos := ps, after := #[{ on := 0, ground := Ground.data }, { on := 1, ground := Ground.data }], guard := none }) (oj := { dst := some 9, op := Op.alloc 31, type := 0, pos := ps, after := #[], guard := none }) (fuel := 4) (by kernel_rfl) (by kernel_rfl) (by kernel_rfl) (by kernel_rfl) (by kernel_rfl) (fun K hK => ?_) (fun K hK => ?_)
    · unfold fr29
      go_simp
      refine (hc0 W).mono ?_
      rintro e W1 ⟨rfl, B1⟩
      have hW1 := hW.trans (B1.mono hW.size)
      refine hK _ _ (hS.below hW1 hS.lt) (cast_h (fr29 v0 (.int .i64 page) v2 v3 (.pointer (some ⟨B, 0, none⟩)) v5 v6 v7 v8 v9 (.pointer (some ⟨A10, 0, none⟩)) (.agg (seC s)) (.int .i64 page) (.agg (rcC (colR s page 0))) (.agg (seC s)) (.int .i64 page) (.pointer (some ⟨B, 6, none⟩)) (.int .i64 s.cols) (.int .i64 (s.cols - 1)) v19 v20 v21 v22 v23 v24 v25 v26 v27 v28 v29 v30 v31 v32) (by kernel_rfl) ?_)
      refine list_h #[true, true, true, true, true, true, true, true, false, false, true, false, false] (by kernel_rfl) ?_
      exact t011 A10 W1 hW1 ((B1.block A10 (Array.getElem?_eq_some_iff.1 h10).1).trans h10) g10
    · unfold fr29
      go_simp
      have hW1 := hW.alloc hW.size (Obj.cells #[.int .i64 0, .int .i64 0, .int .i64 0, .int .i64 0] 31)
      refine hK _ _ (hS.below hW1 hS.lt) (cast_h (fr29 v0 (.int .i64 page) v2 v3 (.pointer (some ⟨B, 0, none⟩)) v5 v6 v7 v8 (.pointer (some ⟨W.heap.size, 0, none⟩)) (.pointer (some ⟨A10, 0, none⟩)) (.agg (seC s)) (.int .i64 page) v13 (.agg (seC s)) (.int .i64 page) (.pointer (some ⟨B, 6, none⟩)) (.int .i64 s.cols) (.int .i64 (s.cols - 1)) v19 v20 v21 v22 v23 v24 v25 v26 v27 v28 v29 v30 v31 v32) (by kernel_rfl) ?_)
      refine list_h #[true, true, false, true, true, true, true, true, false, true, true, false, false] (by kernel_rfl) ?_
      exact t110 W.heap.size A10 _ hW1 (heap_new W _) hW.size ((heap_old W _ (Array.getElem?_eq_some_iff.1 h10).1).trans h10) g10 (Ne.symm (Nat.ne_of_lt (Array.getElem?_eq_some_iff.1 h10).1))
  have t000 : ∀ (W : World), Below w0.heap.size w0 W → wpAnyH Try.prog .any (ops29 ps) Q (fun w => SB w B s) 6 #[true, true, false, true, true, true, true, true, false, false, false, false, false] (fr29 v0 (.int .i64 page) v2 v3 (.pointer (some ⟨B, 0, none⟩)) v5 v6 v7 v8 v9 v10 (.agg (seC s)) (.int .i64 page) v13 (.agg (seC s)) (.int .i64 page) (.pointer (some ⟨B, 6, none⟩)) (.int .i64 s.cols) (.int .i64 (s.cols - 1)) v19 v20 v21 v22 v23 v24 v25 v26 v27 v28 v29 v30 v31 v32) W := by
    intro W hW 
    have C0 : SB W B s := hS.below hW hS.lt
    refine three_h (i := 2) (j := 9) (l := 10) (oi := { dst := some 13, op := Op.call { callee := Callee.value (Operand.func 28), args := #[Operand.tmp 11, Operand.tmp 12, Operand.const (Value.int IntKind.i64 0)], argTypes := #[24, 3, 3] }, type := 31, pos := ps, after := #[{ on := 0, ground := Ground.data }, { on := 1, ground := Ground.data }], guard := none }) (oj := { dst := some 9, op := Op.alloc 31, type := 0, pos := ps, after := #[], guard := none }) (ol := { dst := some 10, op := Op.alloc 31, type := 0, pos := ps, after := #[], guard := none }) (fuel := 5) (by kernel_rfl) (by kernel_rfl) (by kernel_rfl) (by kernel_rfl) (by kernel_rfl) (by kernel_rfl) (by kernel_rfl) (fun K hK => ?_) (fun K hK => ?_) (fun K hK => ?_)
    · unfold fr29
      go_simp
      refine (hc0 W).mono ?_
      rintro e W1 ⟨rfl, B1⟩
      have hW1 := hW.trans (B1.mono hW.size)
      refine hK _ _ (hS.below hW1 hS.lt) (cast_h (fr29 v0 (.int .i64 page) v2 v3 (.pointer (some ⟨B, 0, none⟩)) v5 v6 v7 v8 v9 v10 (.agg (seC s)) (.int .i64 page) (.agg (rcC (colR s page 0))) (.agg (seC s)) (.int .i64 page) (.pointer (some ⟨B, 6, none⟩)) (.int .i64 s.cols) (.int .i64 (s.cols - 1)) v19 v20 v21 v22 v23 v24 v25 v26 v27 v28 v29 v30 v31 v32) (by kernel_rfl) ?_)
      refine list_h #[true, true, true, true, true, true, true, true, false, false, false, false, false] (by kernel_rfl) ?_
      exact t001 W1 hW1
    · unfold fr29
      go_simp
      have hW1 := hW.alloc hW.size (Obj.cells #[.int .i64 0, .int .i64 0, .int .i64 0, .int .i64 0] 31)
      refine hK _ _ (hS.below hW1 hS.lt) (cast_h (fr29 v0 (.int .i64 page) v2 v3 (.pointer (some ⟨B, 0, none⟩)) v5 v6 v7 v8 (.pointer (some ⟨W.heap.size, 0, none⟩)) v10 (.agg (seC s)) (.int .i64 page) v13 (.agg (seC s)) (.int .i64 page) (.pointer (some ⟨B, 6, none⟩)) (.int .i64 s.cols) (.int .i64 (s.cols - 1)) v19 v20 v21 v22 v23 v24 v25 v26 v27 v28 v29 v30 v31 v32) (by kernel_rfl) ?_)
      refine list_h #[true, true, false, true, true, true, true, true, false, true, false, false, false] (by kernel_rfl) ?_
      exact t100 W.heap.size _ hW1 (heap_new W _) hW.size
    · unfold fr29
      go_simp
      have hW1 := hW.alloc hW.size (Obj.cells #[.int .i64 0, .int .i64 0, .int .i64 0, .int .i64 0] 31)
      refine hK _ _ (hS.below hW1 hS.lt) (cast_h (fr29 v0 (.int .i64 page) v2 v3 (.pointer (some ⟨B, 0, none⟩)) v5 v6 v7 v8 v9 (.pointer (some ⟨W.heap.size, 0, none⟩)) (.agg (seC s)) (.int .i64 page) v13 (.agg (seC s)) (.int .i64 page) (.pointer (some ⟨B, 6, none⟩)) (.int .i64 s.cols) (.int .i64 (s.cols - 1)) v19 v20 v21 v22 v23 v24 v25 v26 v27 v28 v29 v30 v31 v32) (by kernel_rfl) ?_)
      refine list_h #[true, true, false, true, true, true, true, true, false, false, true, false, false] (by kernel_rfl) ?_
      exact t010 W.heap.size _ hW1 (heap_new W _) hW.size
  refine wp_region_held (S := fun w => SB w B s) (by kernel_rfl) ?_
  change wpAnyH _ _ _ _ _ 13 _ _ (World.drew w0)
  have C0 : SB w0.drew B s := hS.below (below_drew w0) hS.lt
  refine take_h (i := 0) (oi := { dst := some 11, op := Op.load 24 (Operand.tmp 4), type := 24, pos := ps, after := #[], guard := none }) (fuel := 12) (v := (.agg (seC s))) (fr29 v0 (.int .i64 page) v2 v3 (.pointer (some ⟨B, 0, none⟩)) v5 v6 v7 v8 v9 v10 (.agg (seC s)) v12 v13 v14 v15 v16 v17 v18 v19 v20 v21 v22 v23 v24 v25 v26 v27 v28 v29 v30 v31 v32) (by kernel_rfl) (by kernel_rfl) (by kernel_rfl) (by kernel_rfl) (fun c x w => hQ c x _ _ w) (by kernel_rfl) (fun w hS => load_sec (x := (Operand.tmp 4)) hS (by kernel_rfl) (by kernel_rfl)) (by kernel_rfl) C0 ?_
  refine take_h (i := 1) (oi := { dst := some 12, op := Op.move (Operand.tmp 1), type := 3, pos := ps, after := #[], guard := none }) (fuel := 11) (v := (.int .i64 page)) (fr29 v0 (.int .i64 page) v2 v3 (.pointer (some ⟨B, 0, none⟩)) v5 v6 v7 v8 v9 v10 (.agg (seC s)) (.int .i64 page) v13 v14 v15 v16 v17 v18 v19 v20 v21 v22 v23 v24 v25 v26 v27 v28 v29 v30 v31 v32) (by kernel_rfl) (by kernel_rfl) (by kernel_rfl) (by kernel_rfl) (fun c x w => hQ c x _ _ w) (by kernel_rfl) (fun w _ => by kernel_rfl) (by kernel_rfl) C0 ?_
  refine take_h (i := 3) (oi := { dst := some 14, op := Op.load 24 (Operand.tmp 4), type := 24, pos := ps, after := #[], guard := none }) (fuel := 10) (v := (.agg (seC s))) (fr29 v0 (.int .i64 page) v2 v3 (.pointer (some ⟨B, 0, none⟩)) v5 v6 v7 v8 v9 v10 (.agg (seC s)) (.int .i64 page) v13 (.agg (seC s)) v15 v16 v17 v18 v19 v20 v21 v22 v23 v24 v25 v26 v27 v28 v29 v30 v31 v32) (by kernel_rfl) (by kernel_rfl) (by kernel_rfl) (by kernel_rfl) (fun c x w => hQ c x _ _ w) (by kernel_rfl) (fun w hS => load_sec (x := (Operand.tmp 4)) hS (by kernel_rfl) (by kernel_rfl)) (by kernel_rfl) C0 ?_
  refine take_h (i := 4) (oi := { dst := some 15, op := Op.move (Operand.tmp 1), type := 3, pos := ps, after := #[], guard := none }) (fuel := 9) (v := (.int .i64 page)) (fr29 v0 (.int .i64 page) v2 v3 (.pointer (some ⟨B, 0, none⟩)) v5 v6 v7 v8 v9 v10 (.agg (seC s)) (.int .i64 page) v13 (.agg (seC s)) (.int .i64 page) v16 v17 v18 v19 v20 v21 v22 v23 v24 v25 v26 v27 v28 v29 v30 v31 v32) (by kernel_rfl) (by kernel_rfl) (by kernel_rfl) (by kernel_rfl) (fun c x w => hQ c x _ _ w) (by kernel_rfl) (fun w _ => by kernel_rfl) (by kernel_rfl) C0 ?_
  refine take_h (i := 5) (oi := { dst := some 16, op := Op.fieldAddr 24 (Operand.tmp 4) 6, type := 0, pos := ps, after := #[], guard := none }) (fuel := 8) (v := (.pointer (some ⟨B, 6, none⟩))) (fr29 v0 (.int .i64 page) v2 v3 (.pointer (some ⟨B, 0, none⟩)) v5 v6 v7 v8 v9 v10 (.agg (seC s)) (.int .i64 page) v13 (.agg (seC s)) (.int .i64 page) (.pointer (some ⟨B, 6, none⟩)) v17 v18 v19 v20 v21 v22 v23 v24 v25 v26 v27 v28 v29 v30 v31 v32) (by kernel_rfl) (by kernel_rfl) (by kernel_rfl) (by kernel_rfl) (fun c x w => hQ c x _ _ w) (by kernel_rfl) (fun w hS => by unfold fr29; go_simp) (by kernel_rfl) C0 ?_
  refine take_h (i := 6) (oi := { dst := some 17, op := Op.load 3 (Operand.tmp 16), type := 3, pos := ps, after := #[{ on := 5, ground := Ground.data }], guard := none }) (fuel := 7) (v := (.int .i64 s.cols)) (fr29 v0 (.int .i64 page) v2 v3 (.pointer (some ⟨B, 0, none⟩)) v5 v6 v7 v8 v9 v10 (.agg (seC s)) (.int .i64 page) v13 (.agg (seC s)) (.int .i64 page) (.pointer (some ⟨B, 6, none⟩)) (.int .i64 s.cols) v18 v19 v20 v21 v22 v23 v24 v25 v26 v27 v28 v29 v30 v31 v32) (by kernel_rfl) (by kernel_rfl) (by kernel_rfl) (by kernel_rfl) (fun c x w => hQ c x _ _ w) (by kernel_rfl) (fun w hS => by have e := hS.c6; unfold fr29; go_simp) (by kernel_rfl) C0 ?_
  refine take_h (i := 7) (oi := { dst := some 18, op := Op.binOp BinOp.sub 3 (Operand.tmp 17) (Operand.const (Value.int IntKind.i64 1)) 3, type := 3, pos := ps, after := #[{ on := 6, ground := Ground.data }], guard := none }) (fuel := 6) (v := (.int .i64 (s.cols - 1))) (fr29 v0 (.int .i64 page) v2 v3 (.pointer (some ⟨B, 0, none⟩)) v5 v6 v7 v8 v9 v10 (.agg (seC s)) (.int .i64 page) v13 (.agg (seC s)) (.int .i64 page) (.pointer (some ⟨B, 6, none⟩)) (.int .i64 s.cols) (.int .i64 (s.cols - 1)) v19 v20 v21 v22 v23 v24 v25 v26 v27 v28 v29 v30 v31 v32) (by kernel_rfl) (by kernel_rfl) (by kernel_rfl) (by kernel_rfl) (fun c x w => hQ c x _ _ w) (by kernel_rfl) (fun w hS => by unfold fr29; go_simp <;> exact wrap_id (by omega) (by omega)) (by kernel_rfl) C0 ?_
  refine list_h #[true, true, false, true, true, true, true, true, false, false, false, false, false] (by kernel_rfl) ?_
  exact t000 _ (below_drew w0)
end Go.Proofs.Ytglgapmjhmeonaa
