/-
  What is proved here: what two, wide, Of answer.
  What is proved here: what Of answers.
  What is proved here: what Of answers of no text; when two lists of lines are the same; what lines and awake of the law answer.
-/
import Derived.Test.YtnnlfeimebiboaaGreatDoorG31
import Derived.Test.YtnnlfeimebiboaaGreatDoorG18
namespace Go.Proofs.YtnnlfeimebiboaaGreatDoor
open Go.RowKit Go.Shelf

def zeroP : Pa := ⟨⟨#[]⟩, .slice none 0 0, ⟨0, 0, 0, 0, 0, 0, 0, 0, 0, 0, 0, 0, 0, 0, 0, 0, 0⟩, ⟨#[]⟩, .slice none 0 0, [], []⟩
def rawP (t : ByteArray) : Pa := ⟨t, .slice none 0 0, plainP 8, ⟨#[]⟩, .slice none 0 0, [], []⟩
end Go.Proofs.YtnnlfeimebiboaaGreatDoor

namespace Go.Proofs.YtnnlfeimebiboaaGreatDoor
open Go.RowKit Go.Shelf

def rest31 : Code := ((Code.region 4 #[{ dst := some 15, op := Op.load 65 (Operand.tmp 3), type := 65, pos := "outright.go:17", after := #[], guard := none }, { dst := none, op := Op.store 65 (Operand.tmp 2) (Operand.tmp 15), type := 0, pos := "outright.go:17", after := #[{ on := 0, ground := Ground.data }, { on := 0, ground := Ground.phase }], guard := none }] false).seq Code.ret)
set_option maxRecDepth 100000 in
set_option maxHeartbeats 1000000 in
theorem of_end (R : Ending → World → Prop) (a : Pa) (h1 : a.sv.oneCell' = true) (h2 : a.mv.oneCell' = true) (B2 B3 : Nat) (W : World) (hl : W.heap[B3]? = some (.cells (paC a) 65 (0, 0))) (hz : W.heap[B2]? = some (.cells (paC zeroP) 65 (0, 0))) {v0 v1 v4 v5 v6 v7 v8 v9 v10 v11 v12 v13 v14 v15 : Value}
    (hR : R (.returned (.agg (paC a))) (W.setRow B2 (paC a))) : rest31.wp Tryz.prog (bodyPost Tryz.prog Tryz.f34 R) { tmps := #[v0, v1, .pointer (some ⟨B2, 0, none⟩), .pointer (some ⟨B3, 0, none⟩), v4, v5, v6, v7, v8, v9, v10, v11, v12, v13, v14, v15], defers := [] } W := by
  unfold rest31
  go_wp2_with (first | (refine wpList_load_row rfl 65 _ rfl B3 rfl 65 _ (0, 0) _ hl Tryz.underlying65 rfl (info34 a) ?_) | (refine wpList_store_row rfl 65 _ _ rfl B2 (paC a) rfl rfl 65 _ hz (info34 _) rfl (paC_one _ h1 h2) ?_))
  refine bodyPost_ret (results_cell_row rfl _ _ B2 65 _ (0, 0) _ rfl (setRow_heap _ _ _ _ 65 _ hz) Tryz.underlying65 rfl (info34 a)) rfl ?_
  exact hR
def rest31a : Code := (((Code.region 2 #[{ dst := some 7, op := Op.move (Operand.tmp 0), type := 9, pos := "outright.go:14", after := #[], guard := none }, { dst := some 8, op := Op.call { callee := Callee.builtin Builtin.len, args := #[Operand.tmp 7], argTypes := #[9] }, type := 3, pos := "outright.go:14", after := #[{ on := 0, ground := Ground.data }], guard := none }, { dst := some 9, op := Op.binOp BinOp.gtr 3 (Operand.tmp 8) (Operand.const (Value.int IntKind.i64 0)) 3, type := 4, pos := "outright.go:14", after := #[{ on := 1, ground := Ground.data }], guard := none }] false).seq (Code.cond (Operand.tmp 9) (Code.region 3 #[{ dst := some 10, op := Op.move (Operand.tmp 0), type := 9, pos := "outright.go:15", after := #[], guard := none }, { dst := some 11, op := Op.call { callee := Callee.builtin Builtin.len, args := #[Operand.tmp 10], argTypes := #[9] }, type := 3, pos := "outright.go:15", after := #[{ on := 0, ground := Ground.data }], guard := none }, { dst := some 12, op := Op.build 91 #[(0, Operand.tmp 11)], type := 91, pos := "outright.go:15", after := #[{ on := 1, ground := Ground.data }], guard := none }, { dst := some 13, op := Op.buildSlice 60 1 #[(0, Operand.tmp 12)], type := 60, pos := "outright.go:15", after := #[{ on := 2, ground := Ground.data }], guard := none }, { dst := some 14, op := Op.fieldAddr 65 (Operand.tmp 3) 1, type := 0, pos := "outright.go:15", after := #[{ on := 0, ground := Ground.phase }, { on := 1, ground := Ground.phase }, { on := 2, ground := Ground.phase }, { on := 3, ground := Ground.phase }], guard := none }, { dst := none, op := Op.store 60 (Operand.tmp 14) (Operand.tmp 13), type := 0, pos := "outright.go:15", after := #[{ on := 4, ground := Ground.data }, { on := 3, ground := Ground.data }, { on := 0, ground := Ground.phase }, { on := 1, ground := Ground.phase }, { on := 2, ground := Ground.phase }, { on := 3, ground := Ground.phase }], guard := none }] false) Code.skip)).seq rest31)
def OfEnd (t : ByteArray) (w : World) (e : Ending) (w' : World) : Prop := (∃ sv, e = .returned (.agg (paC (ofP t sv 0))) ∧ PaAt w' (ofP t sv 0)) ∧ Below w.heap.size w w'
set_option maxRecDepth 100000 in
set_option maxHeartbeats 1000000 in
theorem of_mid (t : ByteArray) (ht : 0 < t.size) (w W : World) (B3 : Nat) (hB : Below w.heap.size w W) (hP : PB W B3 (rawP t)) (hz : W.heap[w.heap.size]? = some (.cells (paC zeroP) 65 (0, 0))) (h3 : w.heap.size < B3) {v1 v4 v5 v6 v7 v8 v9 v10 v11 v12 v13 v14 v15 : Value} :
    rest31a.wp Tryz.prog (bodyPost Tryz.prog Tryz.f34 (OfEnd t w)) { tmps := #[.string t, v1, .pointer (some ⟨w.heap.size, 0, none⟩), .pointer (some ⟨B3, 0, none⟩), v4, v5, v6, v7, v8, v9, v10, v11, v12, v13, v14, v15], defers := [] } W := by
  have ht' : (0 : Int) < t.size := by omega
  have hlt := hP.lt
  have hP5 : PB (W.alloc (.cells #[.int .i64 t.size, .int .i64 0, .int .i64 0, .int .i64 0] 91)) B3 (rawP t) := ⟨(Below.heap_alloc _ _ _ hlt).trans hP.row⟩
  have c1 : (W.alloc (.cells #[.int .i64 t.size, .int .i64 0, .int .i64 0, .int .i64 0] 91)).cell? ⟨B3, 1, none⟩ = some (.slice none 0 0) := hP5.c1
  have f1 : (W.alloc (.cells #[.int .i64 t.size, .int .i64 0, .int .i64 0, .int .i64 0] 91)).frozen? ⟨B3, 1, none⟩ = false := Lib.frozen_of_heap hP5.row 1
  have hend : Hid (∀ v0 v1 v4 v5 v6 v7 v8 v9 v10 v11 v12 v13 v14 v15 : Value, rest31.wp Tryz.prog (bodyPost Tryz.prog Tryz.f34 (OfEnd t w)) { tmps := #[v0, v1, .pointer (some ⟨w.heap.size, 0, none⟩), .pointer (some ⟨B3, 0, none⟩), v4, v5, v6, v7, v8, v9, v10, v11, v12, v13, v14, v15], defers := [] } ((W.setCell ⟨B3, 1, none⟩ (.slice (some ⟨W.heap.size, 0, none⟩) 1 1)).alloc (.cells #[.int .i64 t.size, .int .i64 0, .int .i64 0, .int .i64 0] 91))) := by
    intro v0 v1 v4 v5 v6 v7 v8 v9 v10 v11 v12 v13 v14 v15
    have hrec : RecAt 4 spL ((W.setCell ⟨B3, 1, none⟩ (.slice (some ⟨W.heap.size, 0, none⟩) 1 1)).alloc (.cells #[.int .i64 t.size, .int .i64 0, .int .i64 0, .int .i64 0] 91)) (.slice (some ⟨W.heap.size, 0, none⟩) 1 1) [⟨t.size, 0, 0, 0⟩] := by
      have := rec_new spL_len (W.setCell ⟨B3, 1, none⟩ (.slice (some ⟨W.heap.size, 0, none⟩) 1 1)) 91 [⟨t.size, 0, 0, 0⟩]
      rw [World.size_setCell] at this
      exact this
    have hl : ((W.setCell ⟨B3, 1, none⟩ (.slice (some ⟨W.heap.size, 0, none⟩) 1 1)).alloc (.cells #[.int .i64 t.size, .int .i64 0, .int .i64 0, .int .i64 0] 91)).heap[B3]? = some (.cells (paC (ofP t (.slice (some ⟨W.heap.size, 0, none⟩) 1 1) 0)) 65 (0, 0)) := (Below.heap_alloc _ _ _ (by rw [World.size_setCell]; exact hlt)).trans (heap_setCell_same _ _ 1 _ 65 _ hP.row)
    have hz6 : ((W.setCell ⟨B3, 1, none⟩ (.slice (some ⟨W.heap.size, 0, none⟩) 1 1)).alloc (.cells #[.int .i64 t.size, .int .i64 0, .int .i64 0, .int .i64 0] 91)).heap[w.heap.size]? = some (.cells (paC zeroP) 65 (0, 0)) := (Below.heap_alloc _ _ _ (by rw [World.size_setCell]; omega)).trans ((Below.heap_setCell _ _ _ _ (by show w.heap.size ≠ B3; omega)).trans hz)
    have hT6 : Turns (fun k => k = w.heap.size) ((W.setCell ⟨B3, 1, none⟩ (.slice (some ⟨W.heap.size, 0, none⟩) 1 1)).alloc (.cells #[.int .i64 t.size, .int .i64 0, .int .i64 0, .int .i64 0] 91)) (((W.setCell ⟨B3, 1, none⟩ (.slice (some ⟨W.heap.size, 0, none⟩) 1 1)).alloc (.cells #[.int .i64 t.size, .int .i64 0, .int .i64 0, .int .i64 0] 91)).setRow w.heap.size (paC (ofP t (.slice (some ⟨W.heap.size, 0, none⟩) 1 1) 0))) := Turns.setRow (X := fun k => k = w.heap.size) _ rfl _
    have hB6 : Below w.heap.size w ((W.setCell ⟨B3, 1, none⟩ (.slice (some ⟨W.heap.size, 0, none⟩) 1 1)).alloc (.cells #[.int .i64 t.size, .int .i64 0, .int .i64 0, .int .i64 0] 91)) := (hB.setCell (p := ⟨B3, 1, none⟩) (by show w.heap.size ≤ B3; omega) _).alloc (by rw [World.size_setCell]; omega) _
    refine of_end (OfEnd t w) (ofP t (.slice (some ⟨W.heap.size, 0, none⟩) 1 1) 0) rfl rfl w.heap.size B3 _ hl hz6 ?_
    exact ⟨⟨_, rfl, rec_turns hrec hT6 (fun b o n c e => by cases e; omega), ⟨⟨none, 0, rfl, .inl rfl⟩, fun a n c e => by cases e; exact Nat.le_refl _⟩, by simp [ofP]⟩, hB6.trans (hT6.below hB6.size (fun k hk => by omega))⟩
  clear hP5 hz hB hP
  unfold rest31a
  go_wp2_with fail
  exact hend.out _ _ _ _ _ _ _ _ _ _ _ _ _ _
set_option maxRecDepth 100000 in
set_option maxHeartbeats 1000000 in
theorem of_any (t : ByteArray) (ht : 0 < t.size) (w : World) : Calls Tryz.prog 34 #[.string t] w (OfEnd t w) := by
  have hpl : Hid (Calls Tryz.prog 50 #[.int .i64 8] (w.alloc (.cells (paC zeroP) 65)) fun e w' => e = .returned (.agg #[.int .i64 8, .int .i64 12, .int .i64 0, .int .i64 0, .int .i64 0, .int .i64 0, .int .i64 0, .int .i64 0, .int .i64 0, .int .i64 0, .int .i64 1, .int .i64 1, .int .i64 0, .int .i64 0, .int .i64 0, .int .i64 0, .int .i64 0]) ∧ Below (w.alloc (.cells (paC zeroP) 65)).heap.size (w.alloc (.cells (paC zeroP) 65)) w') := plain_any 8 _
  have hend : Hid (∀ w2, Below (w.alloc (.cells (paC zeroP) 65)).heap.size (w.alloc (.cells (paC zeroP) 65)) w2 → ∀ v1 v4 v5 v6 v7 v8 v9 v10 v11 v12 v13 v14 v15 : Value, rest31a.wp Tryz.prog (bodyPost Tryz.prog Tryz.f34 (OfEnd t w)) { tmps := #[.string t, v1, .pointer (some ⟨w.heap.size, 0, none⟩), .pointer (some ⟨w2.heap.size, 0, none⟩), v4, v5, v6, v7, v8, v9, v10, v11, v12, v13, v14, v15], defers := [] } ((w2.alloc (.cells (paC zeroP) 65)).setRow w2.heap.size (paC (rawP t)))) := fun w2 hb2 => by
    intro v1 v4 v5 v6 v7 v8 v9 v10 v11 v12 v13 v14 v15
    have hB1 := (Below.refl w.heap.size w).alloc (Nat.le_refl _) (Obj.cells (paC zeroP) 65)
    have hs1 : (w.alloc (.cells (paC zeroP) 65)).heap.size = w.heap.size + 1 := World.size_alloc _ _
    have h2 : w.heap.size < w2.heap.size := by have := hb2.size; omega
    have hr2 : w2.heap[w.heap.size]? = some (.cells (paC zeroP) 65 (0, 0)) := (hb2.block _ (by rw [hs1]; omega)).trans (PB.new w zeroP).row
    have hT4 : Turns (fun k => k = w2.heap.size) (w2.alloc (.cells (paC zeroP) 65)) ((w2.alloc (.cells (paC zeroP) 65)).setRow w2.heap.size (paC (rawP t))) := Turns.setRow (X := fun k => k = w2.heap.size) _ rfl _
    have hB3 : Below w.heap.size w (w2.alloc (.cells (paC zeroP) 65)) := (hB1.trans (hb2.mono hB1.size)).alloc (by omega) _
    exact of_mid t ht w _ w2.heap.size (hB3.trans (hT4.below hB3.size (fun k hk => by omega))) ⟨setRow_heap _ _ _ _ 65 _ (PB.new w2 zeroP).row⟩ ((hT4.block _ (by simp; omega) (by omega)).trans ((Below.heap_alloc _ _ _ h2).trans hr2)) h2
  have hz : Hid (∀ w2 : World, (w2.alloc (.cells (paC zeroP) 65)).heap[w2.heap.size]? = some (.cells (paC zeroP) 65 (0, 0))) := fun w2 => (PB.new w2 zeroP).row
  dsimp only [paC, zeroP] at hz
  go_enter Tryz.func34, Tryz.ntmps34
  change Code.wp Tryz.prog ((Code.region 0 #[{ dst := some 2, op := Op.alloc 65, type := 0, pos := "outright.go:12", after := #[], guard := none }] false).seq ((Code.region 1 #[{ dst := some 4, op := Op.move (Operand.tmp 0), type := 9, pos := "outright.go:13", after := #[], guard := none }, { dst := some 5, op := Op.call { callee := Callee.value (Operand.func 50), args := #[Operand.const (Value.int IntKind.i64 8)], argTypes := #[3] }, type := 62, pos := "outright.go:13", after := #[], guard := none }, { dst := some 6, op := Op.build 65 #[(0, Operand.tmp 4), (2, Operand.tmp 5)], type := 65, pos := "outright.go:13", after := #[{ on := 0, ground := Ground.data }, { on := 1, ground := Ground.data }], guard := none }, { dst := some 3, op := Op.alloc 65, type := 0, pos := "outright.go:13", after := #[], guard := none }, { dst := none, op := Op.store 65 (Operand.tmp 3) (Operand.tmp 6), type := 0, pos := "outright.go:13", after := #[{ on := 3, ground := Ground.data }, { on := 2, ground := Ground.data }, { on := 1, ground := Ground.chain }, { on := 0, ground := Ground.phase }, { on := 1, ground := Ground.phase }, { on := 2, ground := Ground.phase }, { on := 3, ground := Ground.phase }], guard := none }] false).seq rest31a)) _ _ _
  go_wp2_with (first | (refine wpList_store_row rfl 65 (.tmp 3) (.tmp 6) rfl w2.heap.size (paC (rawP t)) rfl rfl 65 _ (hz.out w2) (info34 _) rfl (paC_one _ rfl rfl) ?_) | (go_at_call 50; refine hpl.out.mono ?_; rintro e w2 ⟨rfl, hb2⟩))
  exact hend.out w2 hb2 _ _ _ _ _ _ _ _ _ _ _ _ _
end Go.Proofs.YtnnlfeimebiboaaGreatDoor

namespace Go.Proofs.YtnnlfeimebiboaaGreatDoor
open Go.RowKit Go.Shelf

def OfEnd0 (t : ByteArray) (w : World) (e : Ending) (w' : World) : Prop := (e = .returned (.agg (paC (rawP t))) ∧ PaAt w' (rawP t)) ∧ Below w.heap.size w w'
set_option maxRecDepth 100000 in
set_option maxHeartbeats 1000000 in
theorem of_mid0 (t : ByteArray) (ht : ¬ 0 < t.size) (w W : World) (B3 : Nat) (hB : Below w.heap.size w W) (hP : PB W B3 (rawP t)) (hz : W.heap[w.heap.size]? = some (.cells (paC zeroP) 65 (0, 0))) (_h3 : w.heap.size < B3) {v1 v4 v5 v6 v7 v8 v9 v10 v11 v12 v13 v14 v15 : Value} :
    rest31a.wp Tryz.prog (bodyPost Tryz.prog Tryz.f34 (OfEnd0 t w)) { tmps := #[.string t, v1, .pointer (some ⟨w.heap.size, 0, none⟩), .pointer (some ⟨B3, 0, none⟩), v4, v5, v6, v7, v8, v9, v10, v11, v12, v13, v14, v15], defers := [] } W := by
  have ht' : ¬ (0 : Int) < t.size := by omega
  have hend : Hid (∀ v0 v1 v4 v5 v6 v7 v8 v9 v10 v11 v12 v13 v14 v15 : Value, rest31.wp Tryz.prog (bodyPost Tryz.prog Tryz.f34 (OfEnd0 t w)) { tmps := #[v0, v1, .pointer (some ⟨w.heap.size, 0, none⟩), .pointer (some ⟨B3, 0, none⟩), v4, v5, v6, v7, v8, v9, v10, v11, v12, v13, v14, v15], defers := [] } W) := by
    intro v0 v1 v4 v5 v6 v7 v8 v9 v10 v11 v12 v13 v14 v15
    have hT6 : Turns (fun k => k = w.heap.size) W (W.setRow w.heap.size (paC (rawP t))) := Turns.setRow (X := fun k => k = w.heap.size) _ rfl _
    refine of_end (OfEnd0 t w) (rawP t) rfl rfl w.heap.size B3 _ hP.row hz ?_
    exact ⟨⟨rfl, ⟨⟨none, 0, rfl, .inl rfl⟩, fun a n c e => by cases e; exact Nat.le_refl _⟩, ⟨⟨none, 0, rfl, .inl rfl⟩, fun a n c e => by cases e; exact Nat.le_refl _⟩, by simp [rawP]⟩, hB.trans (hT6.below hB.size (fun k hk => by omega))⟩
  clear hz hB hP
  unfold rest31a
  go_wp2_with fail
  exact hend.out _ _ _ _ _ _ _ _ _ _ _ _ _ _
set_option maxRecDepth 100000 in
set_option maxHeartbeats 1000000 in
theorem of_none (t : ByteArray) (ht : ¬ 0 < t.size) (w : World) : Calls Tryz.prog 34 #[.string t] w (OfEnd0 t w) := by
  have hpl : Hid (Calls Tryz.prog 50 #[.int .i64 8] (w.alloc (.cells (paC zeroP) 65)) fun e w' => e = .returned (.agg #[.int .i64 8, .int .i64 12, .int .i64 0, .int .i64 0, .int .i64 0, .int .i64 0, .int .i64 0, .int .i64 0, .int .i64 0, .int .i64 0, .int .i64 1, .int .i64 1, .int .i64 0, .int .i64 0, .int .i64 0, .int .i64 0, .int .i64 0]) ∧ Below (w.alloc (.cells (paC zeroP) 65)).heap.size (w.alloc (.cells (paC zeroP) 65)) w') := plain_any 8 _
  have hend : Hid (∀ w2, Below (w.alloc (.cells (paC zeroP) 65)).heap.size (w.alloc (.cells (paC zeroP) 65)) w2 → ∀ v1 v4 v5 v6 v7 v8 v9 v10 v11 v12 v13 v14 v15 : Value, rest31a.wp Tryz.prog (bodyPost Tryz.prog Tryz.f34 (OfEnd0 t w)) { tmps := #[.string t, v1, .pointer (some ⟨w.heap.size, 0, none⟩), .pointer (some ⟨w2.heap.size, 0, none⟩), v4, v5, v6, v7, v8, v9, v10, v11, v12, v13, v14, v15], defers := [] } ((w2.alloc (.cells (paC zeroP) 65)).setRow w2.heap.size (paC (rawP t)))) := fun w2 hb2 => by
    intro v1 v4 v5 v6 v7 v8 v9 v10 v11 v12 v13 v14 v15
    have hB1 := (Below.refl w.heap.size w).alloc (Nat.le_refl _) (Obj.cells (paC zeroP) 65)
    have hs1 : (w.alloc (.cells (paC zeroP) 65)).heap.size = w.heap.size + 1 := World.size_alloc _ _
    have h2 : w.heap.size < w2.heap.size := by have := hb2.size; omega
    have hr2 : w2.heap[w.heap.size]? = some (.cells (paC zeroP) 65 (0, 0)) := (hb2.block _ (by rw [hs1]; omega)).trans (PB.new w zeroP).row
    have hT4 : Turns (fun k => k = w2.heap.size) (w2.alloc (.cells (paC zeroP) 65)) ((w2.alloc (.cells (paC zeroP) 65)).setRow w2.heap.size (paC (rawP t))) := Turns.setRow (X := fun k => k = w2.heap.size) _ rfl _
    have hB3 : Below w.heap.size w (w2.alloc (.cells (paC zeroP) 65)) := (hB1.trans (hb2.mono hB1.size)).alloc (by omega) _
    exact of_mid0 t ht w _ w2.heap.size (hB3.trans (hT4.below hB3.size (fun k hk => by omega))) ⟨setRow_heap _ _ _ _ 65 _ (PB.new w2 zeroP).row⟩ ((hT4.block _ (by simp; omega) (by omega)).trans ((Below.heap_alloc _ _ _ h2).trans hr2)) h2
  have hz : Hid (∀ w2 : World, (w2.alloc (.cells (paC zeroP) 65)).heap[w2.heap.size]? = some (.cells (paC zeroP) 65 (0, 0))) := fun w2 => (PB.new w2 zeroP).row
  dsimp only [paC, zeroP] at hz
  go_enter Tryz.func34, Tryz.ntmps34
  change Code.wp Tryz.prog ((Code.region 0 #[{ dst := some 2, op := Op.alloc 65, type := 0, pos := "outright.go:12", after := #[], guard := none }] false).seq ((Code.region 1 #[{ dst := some 4, op := Op.move (Operand.tmp 0), type := 9, pos := "outright.go:13", after := #[], guard := none }, { dst := some 5, op := Op.call { callee := Callee.value (Operand.func 50), args := #[Operand.const (Value.int IntKind.i64 8)], argTypes := #[3] }, type := 62, pos := "outright.go:13", after := #[], guard := none }, { dst := some 6, op := Op.build 65 #[(0, Operand.tmp 4), (2, Operand.tmp 5)], type := 65, pos := "outright.go:13", after := #[{ on := 0, ground := Ground.data }, { on := 1, ground := Ground.data }], guard := none }, { dst := some 3, op := Op.alloc 65, type := 0, pos := "outright.go:13", after := #[], guard := none }, { dst := none, op := Op.store 65 (Operand.tmp 3) (Operand.tmp 6), type := 0, pos := "outright.go:13", after := #[{ on := 3, ground := Ground.data }, { on := 2, ground := Ground.data }, { on := 1, ground := Ground.chain }, { on := 0, ground := Ground.phase }, { on := 1, ground := Ground.phase }, { on := 2, ground := Ground.phase }, { on := 3, ground := Ground.phase }], guard := none }] false).seq rest31a)) _ _ _
  go_wp2_with (first | (refine wpList_store_row rfl 65 (.tmp 3) (.tmp 6) rfl w2.heap.size (paC (rawP t)) rfl rfl 65 _ (hz.out w2) (info34 _) rfl (paC_one _ rfl rfl) ?_) | (go_at_call 50; refine hpl.out.mono ?_; rintro e w2 ⟨rfl, hb2⟩))
  exact hend.out w2 hb2 _ _ _ _ _ _ _ _ _ _ _ _ _
set_option maxRecDepth 100000 in
set_option maxHeartbeats 4000000 in
theorem samePieces_yes (v u : Value) (qs : List Pc) (w : World) (hl : qs.length ≤ 9223372036854775807) (hS : PcsAt w v qs) (hR : PcsAt w u qs) :
    Calls Tryz.prog 10 #[v, u] w fun e w' => e = .returned (.bool true) ∧ Below w.heap.size w w' := by
  obtain ⟨a, cap, rfl, h2⟩ := hS.ex
  obtain ⟨a', cap', rfl, h3⟩ := hR.ex
  clear hS hR
  go_enter Tryz.func10, Tryz.ntmps10
  go_wp2_with fail
  go_loopw [5] (fun i wr => ∃ k : Nat, k ≤ qs.length ∧ i = .int .i64 k ∧ Below w.heap.size w wr) (fun i _ => qs.length - (intOf i).toNat)
  case atStart => exact ⟨0, by omega, rfl, Below.refl _ _⟩
  case round =>
    obtain ⟨k, hk, rfl, hb⟩ := hrel
    by_cases hlt : k < qs.length
    · rcases h2 with h2 | ⟨b, o, rfl, hbl, hc⟩
      · rw [h2] at hlt; simp at hlt
      · rcases h3 with h3 | ⟨b', o', rfl, hbl', hc'⟩
        · rw [h3] at hlt; simp at hlt
        · have hlt' : (k : Int) < qs.length := by omega
          have c0 : wr.cell? ⟨b, o + k * 5, none⟩ = some (.int .i64 (qs[k].a : Nat)) := (hb.cell hbl).trans (hc k hlt 0 _ rfl)
          have c1 : wr.cell? ⟨b, o + k * 5 + 1, none⟩ = some (.int .i64 (qs[k].b : Nat)) := (hb.cell hbl).trans (hc k hlt 1 _ rfl)
          have c2 : wr.cell? ⟨b, o + k * 5 + 2, none⟩ = some (.bool qs[k].wd) := (hb.cell hbl).trans (hc k hlt 2 _ rfl)
          have c3 : wr.cell? ⟨b, o + k * 5 + 3, none⟩ = some (.bool qs[k].hy) := (hb.cell hbl).trans (hc k hlt 3 _ rfl)
          have c4 : wr.cell? ⟨b, o + k * 5 + 4, none⟩ = some (.int .i64 qs[k].nt) := (hb.cell hbl).trans (hc k hlt 4 _ rfl)
          have d0 : wr.cell? ⟨b', o' + k * 5, none⟩ = some (.int .i64 (qs[k].a : Nat)) := (hb.cell hbl').trans (hc' k hlt 0 _ rfl)
          have d1 : wr.cell? ⟨b', o' + k * 5 + 1, none⟩ = some (.int .i64 (qs[k].b : Nat)) := (hb.cell hbl').trans (hc' k hlt 1 _ rfl)
          have d2 : wr.cell? ⟨b', o' + k * 5 + 2, none⟩ = some (.bool qs[k].wd) := (hb.cell hbl').trans (hc' k hlt 2 _ rfl)
          have d3 : wr.cell? ⟨b', o' + k * 5 + 3, none⟩ = some (.bool qs[k].hy) := (hb.cell hbl').trans (hc' k hlt 3 _ rfl)
          have d4 : wr.cell? ⟨b', o' + k * 5 + 4, none⟩ = some (.int .i64 qs[k].nt) := (hb.cell hbl').trans (hc' k hlt 4 _ rfl)
          clear hc hc'
          generalize qs[k].a = x0 at *
          generalize qs[k].b = x1 at *
          generalize qs[k].wd = x2 at *
          generalize qs[k].hy = x3 at *
          generalize qs[k].nt = x4 at *
          go_wp2_with fail
          go_quiet (fail)
          go_wp2_with fail
          go_roundw
          case rel => exact ⟨k + 1, by omega, by simp, below_drewN hb _⟩
          case measure => simp [intOf]; omega
    · have hge : ¬ (k : Int) < qs.length := by omega
      go_wp2_with fail
      go_ret
      exact ⟨rfl, hb⟩

set_option maxRecDepth 100000 in
set_option maxHeartbeats 4000000 in
theorem lines_yes (t : ByteArray) (vs u : Value) (ss : List Sl) (r : Sl) (L : List It) (w : World) (hf : ss.length ≤ 256) (hV : SlsAt w vs ss) (hU : PcsAt w u (lsL L ss r)) (hl : L.length ≤ 8192) (hbr : brE L ss r = 0)
    (hOf : ∀ w, Calls Tryz.prog 34 #[.string t] w fun e w' => (∃ a, e = .returned (.agg (paC a)) ∧ PaAt w' a ∧ chkI a = 0 ∧ a.p.p12 ≠ 1 ∧ ¬ 2 ≤ a.p.p14 ∧ itemsOf a = L) ∧ Below w.heap.size w w') :
    Calls Tryz.prog 18 #[.string t, vs, .agg (slL r).toArray, u] w fun e w' => e = .returned (.bool true) ∧ Below w.heap.size w w' := by
  have hB := (Below.refl w.heap.size w).alloc (Nat.le_refl _) (.cells #[.int .i64 r.x, .int .i64 r.w] 25)
  have hO : Hid (Calls Tryz.prog 34 #[.string t] (w.alloc (.cells #[.int .i64 r.x, .int .i64 r.w] 25)) fun e w' => (∃ a, e = .returned (.agg (paC a)) ∧ Hid (PaAt w' a ∧ chkI a = 0 ∧ a.p.p12 ≠ 1 ∧ ¬ 2 ≤ a.p.p14 ∧ itemsOf a = L)) ∧ Below (w.alloc (.cells #[.int .i64 r.x, .int .i64 r.w] 25)).heap.size (w.alloc (.cells #[.int .i64 r.x, .int .i64 r.w] 25)) w') := hOf _
  have hI : Hid (∀ a W, PaAt W a ∧ chkI a = 0 ∧ a.p.p12 ≠ 1 ∧ ¬ 2 ≤ a.p.p14 ∧ itemsOf a = L → Calls Tryz.prog 33 #[.agg (paC a)] W fun e w' => (∃ v, e = .returned (.tuple #[v, .int .i64 0]) ∧ ItsAt w' v L) ∧ Below W.heap.size W w') := fun a W h => by
    obtain ⟨h1, h2, h3, h4, h5⟩ := h
    refine (items_all a W h1 h3 h4).mono ?_
    rintro e w' ⟨⟨v, rfl, hv⟩, hb⟩
    rw [h2] at hv ⊢
    rcases hv with ⟨k1, _⟩ | ⟨_, k1, _⟩
    · exact absurd rfl k1
    · rw [h5] at k1
      exact ⟨⟨v, rfl, rec_of_row itL_len rfl k1⟩, hb⟩
  have hK : Hid (∀ v W, ItsAt W v L → Below w.heap.size w W → Calls Tryz.prog 8 #[v, vs, .agg #[.int .i64 r.x, .int .i64 r.w]] W fun e w' => (∃ v, e = .returned (.tuple #[v, .int .i64 0]) ∧ PcsAt w' v (lsL L ss r)) ∧ Below W.heap.size W w') := fun v W h1 h2 => by
    refine (break_any v vs L ss r (by omega) W h1 (hV.below h2 (Nat.le_refl _))).mono ?_
    rintro e w' ⟨⟨v, rfl, hv⟩, hb⟩
    rw [hbr] at hv ⊢
    rcases hv with ⟨k1, _⟩ | ⟨_, k1⟩
    · exact absurd rfl k1
    · exact ⟨⟨v, rfl, k1⟩, hb⟩
  have hlen : (lsL L ss r).length ≤ 9000 := by
    have := lsG_len (l := L) (ss := ss) (r := r) (L.length + 1) (sk L 0) 0 (sk_le (L.length + 1) 0 (by omega)).2
    show (lsG L ss r (L.length + 1) (sk L 0) 0).length ≤ 9000
    omega
  have hSm : Hid (∀ v W, PcsAt W v (lsL L ss r) → Below w.heap.size w W → Calls Tryz.prog 10 #[v, u] W fun e w' => e = .returned (.bool true) ∧ Below W.heap.size W w') := fun v W h1 h2 => samePieces_yes v u _ W (by omega) h1 (hU.below h2 (Nat.le_refl _))
  have c0 : (w.alloc (.cells #[.int .i64 r.x, .int .i64 r.w] 25)).cell? ⟨w.heap.size, 0, none⟩ = some (.int .i64 r.x) := by rw [Lib.cell_of_heap (World.alloc_heap_new w _)]; rfl
  have c1 : (w.alloc (.cells #[.int .i64 r.x, .int .i64 r.w] 25)).cell? ⟨w.heap.size, 1, none⟩ = some (.int .i64 r.w) := by rw [Lib.cell_of_heap (World.alloc_heap_new w _)]; rfl
  have hcl : Hid (∀ W, Below (w.alloc (.cells #[.int .i64 r.x, .int .i64 r.w] 25)).heap.size (w.alloc (.cells #[.int .i64 r.x, .int .i64 r.w] 25)) W → W.cell? ⟨w.heap.size, 0, none⟩ = some (.int .i64 r.x) ∧ W.cell? ⟨w.heap.size, 1, none⟩ = some (.int .i64 r.w)) := fun W hW => ⟨(hW.cell (by show w.heap.size < _; simp)).trans c0, (hW.cell (by show w.heap.size < _; simp)).trans c1⟩
  obtain ⟨a2, cap2, rfl, -⟩ := hV.ex
  obtain ⟨a3, cap3, rfl, -⟩ := hU.ex
  have hBh : Hid (Below w.heap.size w (w.alloc (.cells #[.int .i64 r.x, .int .i64 r.w] 25))) := hB
  clear hV hU hOf hbr c0 c1 hB
  generalize lsL L ss r = R at *
  show Calls Tryz.prog 18 #[.string t, .slice a2 ss.length cap2, .agg #[.int .i64 r.x, .int .i64 r.w], .slice a3 R.length cap3] w _
  go_enter Tryz.func18, Tryz.ntmps18
  generalize hw1 : w.alloc (.cells #[.int .i64 r.x, .int .i64 r.w] 25) = w1 at *
  go_wp2_with (first | (go_at_call 34; refine hO.out.mono ?_; rintro e w2 ⟨⟨pa, rfl, hpa⟩, hb2⟩) | (go_at_call 33; refine (hI.out pa w2 hpa.out).mono ?_; rintro e w3 ⟨⟨v3, rfl, hv3⟩, hb3⟩; have hb13 := hb2.trans (hb3.mono hb2.size); obtain ⟨x1, x2⟩ := hcl.out w3 hb13; have hbw3 := hBh.out.trans (hb13.mono hBh.out.size)) | (go_at_call 8; refine (hK.out v3 w3 hv3 hbw3).mono ?_; rintro e w4 ⟨⟨v4, rfl, hv4⟩, hb4⟩; have hbw4 := hbw3.trans (hb4.mono hbw3.size)) | (go_at_call 10; refine (hSm.out v4 w4 hv4 hbw4).mono ?_; rintro e w5 ⟨rfl, hb5⟩))
  go_ret
  exact ⟨rfl, hbw4.trans (hb5.mono hbw4.size)⟩
end Go.Proofs.YtnnlfeimebiboaaGreatDoor
