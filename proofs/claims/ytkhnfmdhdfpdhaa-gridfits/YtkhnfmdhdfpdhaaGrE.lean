/-
  What is proved here: how wide a cell's text is, at least and at most: the drawn regions.
-/
import Derived.Test.YtkhnfmdhdfpdhaaGrD
import Derived.Test.YtkhnfmdhdfpdhaaRound
import Derived.BigRegion
import Derived.BigQuiet
namespace Go.Proofs.Ytkhnfmdhdfpdhaa
open Go.RowKit Go.Shelf
attribute [local go_sem] Oper.semAt_some wide_fn wide_depth

def opx5 (ps : String) : Array Oper := #[{ dst := some 16, op := Op.load 3 (Operand.tmp 5), type := 3, pos := ps, after := #[], guard := none }, { dst := some 17, op := Op.move (Operand.tmp 6), type := 101, pos := ps, after := #[], guard := none }, { dst := some 18, op := Op.call { callee := Callee.value (Operand.func 61), args := #[Operand.tmp 17], argTypes := #[101] }, type := 3, pos := ps, after := #[{ on := 1, ground := Ground.data }], guard := none }, { dst := some 19, op := Op.call { callee := Callee.builtin Builtin.max, args := #[Operand.tmp 16, Operand.tmp 18], argTypes := #[3, 3] }, type := 3, pos := ps, after := #[{ on := 0, ground := Ground.data }, { on := 2, ground := Ground.data }], guard := none }, { dst := none, op := Op.store 3 (Operand.tmp 5) (Operand.tmp 19), type := 0, pos := ps, after := #[{ on := 3, ground := Ground.data }, { on := 2, ground := Ground.chain }, { on := 0, ground := Ground.phase }, { on := 1, ground := Ground.phase }, { on := 2, ground := Ground.phase }, { on := 3, ground := Ground.phase }], guard := none }]

set_option maxRecDepth 100000 in
set_option maxHeartbeats 1000000 in
theorem ext_r5 (Q : Exit → Act → World → Prop) (hQ : ∀ c x (n : Nat) v w, Q (.panic c) (x.put (some n) v) w → Q (.panic c) x w) (id : Nat) (ps : String) (lo B5 : Nat) (x y : Int) (vw v0 v1 v2 v3 v4 v7 v8 v9 v10 v11 v12 v13 v14 v15 v20 v21 v22 v23 : Value) (W : World)
    (hb : W.heap[B5]? = some (.cells #[.int .i64 x] 3 (0, 0)))
    (hN : Calls Try.prog 61 #[vw] W.drew fun e w' => e = .returned (.int .i64 y) ∧ Below W.heap.size W.drew w')
    (hK' : ∀ V' : World, Below W.heap.size W.drew V' → Q .normal { tmps := #[v0, v1, v2, v3, v4, .pointer (some ⟨B5, 0, none⟩), vw, v7, v8, v9, v10, v11, v12, v13, v14, v15, .int .i64 x, vw, .int .i64 y, .int .i64 (max x y), v20, v21, v22, v23], defers := [] } (V'.setCell ⟨B5, 0, none⟩ (.int .i64 (max x y)))) :
    (Code.region id (opx5 ps) true).wpIn (Fence.wide.inRound lo) 0 Try.prog Q { tmps := #[v0, v1, v2, v3, v4, .pointer (some ⟨B5, 0, none⟩), vw, v7, v8, v9, v10, v11, v12, v13, v14, v15, undef, undef, undef, undef, v20, v21, v22, v23], defers := [] } W := by
  have hmx : Try.prog.follows .mixedOrders = true := by kernel_rfl
  refine wpIn_region_round rfl hmx (by kernel_rfl) ?_
  rw [show W.heap.size = W.drew.heap.size from rfl] at hN hK'
  have hd : W.drew.heap = W.heap := rfl
  generalize W.drew = V at *
  have hb' : V.heap[B5]? = some (.cells #[.int .i64 x] 3 (0, 0)) := by rw [hd]; exact hb
  have c5 : V.cell? ⟨B5, 0, none⟩ = some (.int .i64 x) := by rw [Lib.cell_of_heap hb']; rfl
  have hlt := (Array.getElem?_eq_some_iff.1 hb').1
  unfold opx5
  refine wpAnyIn_take (i := 1) (v := vw) rfl rfl (by kernel_rfl) (by kernel_rfl) (by kernel_rfl) (fun c x w => hQ c x _ _ w) ⟨Or.inl ⟨by rfl, ?y1⟩, fun _ => rfl⟩ ?_
  case y1 => (intro w; go_simp)
  go_simp
  refine wpAnyIn_ready (rs := [0, 2]) (by kernel_rfl) (by simp) ?_
  refine AllReadyIn.cons rfl (fun K hK => ?_) (AllReadyIn.cons rfl (fun K hK => ?_) AllReadyIn.nil)
  · go_simp
    refine hK _ _ ?_
    clear hK K
    go_simp
    refine wpAnyIn_ready (rs := [2]) (by kernel_rfl) (by simp) ?_
    refine AllReadyIn.cons rfl (fun K hK => ?_) AllReadyIn.nil
    go_simp
    refine (callsIn_wide.2 hN).mono ?_
    rintro e w1 ⟨rfl, hbl⟩
    have hb1 : w1.heap[B5]? = some (.cells #[.int .i64 x] 3 (0, 0)) := (hbl.block B5 hlt).trans hb'
    have c1 : w1.cell? ⟨B5, 0, none⟩ = some (.int .i64 x) := by rw [Lib.cell_of_heap hb1]; rfl
    have z1 : w1.frozen? ⟨B5, 0, none⟩ = false := Lib.frozen_of_heap hb1 _
    have hQ1 := hK' w1 hbl
    refine hK _ _ ?_
    clear hK K
    go_simp
    refine wpAnyIn_take (i := 3) (v := .int .i64 (max x y)) rfl rfl (by kernel_rfl) (by kernel_rfl) (by kernel_rfl) (fun c x w => hQ c x _ _ w) ⟨Or.inl ⟨by rfl, ?y3⟩, fun _ => rfl⟩ ?_
    case y3 => (intro w; go_simp; split <;> omega)
    go_simp
    refine wpAnyIn_ready (rs := [4]) (by kernel_rfl) (by simp) ?_
    refine AllReadyIn.cons rfl (fun K hK => ?_) AllReadyIn.nil
    go_simp
    refine hK _ _ ?_
    clear hK K
    go_simp
    exact wpAnyIn_done (by kernel_rfl) hQ1 _
  · go_simp
    refine (callsIn_wide.2 hN).mono ?_
    rintro e w1 ⟨rfl, hbl⟩
    have hb1 : w1.heap[B5]? = some (.cells #[.int .i64 x] 3 (0, 0)) := (hbl.block B5 hlt).trans hb'
    have c1 : w1.cell? ⟨B5, 0, none⟩ = some (.int .i64 x) := by rw [Lib.cell_of_heap hb1]; rfl
    have z1 : w1.frozen? ⟨B5, 0, none⟩ = false := Lib.frozen_of_heap hb1 _
    have hQ1 := hK' w1 hbl
    refine hK _ _ ?_
    clear hK K
    go_simp
    refine wpAnyIn_ready (rs := [0]) (by kernel_rfl) (by simp) ?_
    refine AllReadyIn.cons rfl (fun K hK => ?_) AllReadyIn.nil
    go_simp
    refine hK _ _ ?_
    clear hK K
    go_simp
    refine wpAnyIn_take (i := 3) (v := .int .i64 (max x y)) rfl rfl (by kernel_rfl) (by kernel_rfl) (by kernel_rfl) (fun c x w => hQ c x _ _ w) ⟨Or.inl ⟨by rfl, ?y3⟩, fun _ => rfl⟩ ?_
    case y3 => (intro w; go_simp; split <;> omega)
    go_simp
    refine wpAnyIn_ready (rs := [4]) (by kernel_rfl) (by simp) ?_
    refine AllReadyIn.cons rfl (fun K hK => ?_) AllReadyIn.nil
    go_simp
    refine hK _ _ ?_
    clear hK K
    go_simp
    exact wpAnyIn_done (by kernel_rfl) hQ1 _
def opx6 (ps : String) : Array Oper := #[{ dst := some 20, op := Op.load 3 (Operand.tmp 5), type := 3, pos := ps, after := #[], guard := none }, { dst := some 21, op := Op.move (Operand.tmp 3), type := 101, pos := ps, after := #[], guard := none }, { dst := some 22, op := Op.call { callee := Callee.value (Operand.func 61), args := #[Operand.tmp 21], argTypes := #[101] }, type := 3, pos := ps, after := #[{ on := 1, ground := Ground.data }], guard := none }, { dst := some 23, op := Op.build 55 #[(0, Operand.tmp 20), (1, Operand.tmp 22)], type := 55, pos := ps, after := #[{ on := 0, ground := Ground.data }, { on := 2, ground := Ground.data }], guard := none }, { dst := none, op := Op.store 55 (Operand.tmp 2) (Operand.tmp 23), type := 0, pos := ps, after := #[{ on := 3, ground := Ground.data }, { on := 2, ground := Ground.chain }, { on := 0, ground := Ground.phase }, { on := 1, ground := Ground.phase }, { on := 2, ground := Ground.phase }, { on := 3, ground := Ground.phase }], guard := none }]

set_option maxRecDepth 100000 in
set_option maxHeartbeats 1000000 in
theorem ext_r6 (Q : Exit → Act → World → Prop) (id : Nat) (ps : String) (ds : List Deferred) (B5 B2 : Nat) (x y p0 p1 : Int) (vl v0 v1 v4 v6 v7 v8 v9 v10 v11 v12 v13 v14 v15 v16 v17 v18 v19 : Value) (W : World)
    (hb : W.heap[B5]? = some (.cells #[.int .i64 x] 3 (0, 0))) (hb2 : W.heap[B2]? = some (.cells #[.int .i64 p0, .int .i64 p1] 55 (0, 0)))
    (hN : Calls Try.prog 61 #[vl] W.drew fun e w' => e = .returned (.int .i64 y) ∧ Below W.heap.size W.drew w')
    (hK' : ∀ V' : World, Below W.heap.size W.drew V' → Q .normal { tmps := #[v0, v1, .pointer (some ⟨B2, 0, none⟩), vl, v4, .pointer (some ⟨B5, 0, none⟩), v6, v7, v8, v9, v10, v11, v12, v13, v14, v15, v16, v17, v18, v19, .int .i64 x, vl, .int .i64 y, .agg #[.int .i64 x, .int .i64 y]], defers := ds } ((V'.setCell ⟨B2, 0, none⟩ (.int .i64 x)).setCell ⟨B2, 1, none⟩ (.int .i64 y))) :
    (Code.region id (opx6 ps) true).wpIn Fence.wide 0 Try.prog Q { tmps := #[v0, v1, .pointer (some ⟨B2, 0, none⟩), vl, v4, .pointer (some ⟨B5, 0, none⟩), v6, v7, v8, v9, v10, v11, v12, v13, v14, v15, v16, v17, v18, v19, undef, undef, undef, undef], defers := ds } W := by
  refine wpIn_region_any (by kernel_rfl) ?_
  change wpAnyIn _ _ _ _ _ _ _ _ _ (World.drew W)
  rw [show W.heap.size = W.drew.heap.size from rfl] at hN hK'
  have hd : W.drew.heap = W.heap := rfl
  generalize W.drew = V at *
  have hb' : V.heap[B5]? = some (.cells #[.int .i64 x] 3 (0, 0)) := by rw [hd]; exact hb
  have c5 : V.cell? ⟨B5, 0, none⟩ = some (.int .i64 x) := by rw [Lib.cell_of_heap hb']; rfl
  have hlt := (Array.getElem?_eq_some_iff.1 hb').1
  have hb2' : V.heap[B2]? = some (.cells #[.int .i64 p0, .int .i64 p1] 55 (0, 0)) := by rw [hd]; exact hb2
  have hlt2 := (Array.getElem?_eq_some_iff.1 hb2').1
  unfold opx6
  refine wpAnyIn_ready (rs := [0, 1]) (by kernel_rfl) (by simp) ?_
  refine AllReadyIn.cons rfl (fun K hK => ?_) (AllReadyIn.cons rfl (fun K hK => ?_) AllReadyIn.nil)
  · go_simp
    refine hK _ _ ?_
    clear hK K
    go_simp
    refine wpAnyIn_ready (rs := [1]) (by kernel_rfl) (by simp) ?_
    refine AllReadyIn.cons rfl (fun K hK => ?_) AllReadyIn.nil
    go_simp
    refine hK _ _ ?_
    clear hK K
    go_simp
    refine wpAnyIn_ready (rs := [2]) (by kernel_rfl) (by simp) ?_
    refine AllReadyIn.cons rfl (fun K hK => ?_) AllReadyIn.nil
    go_simp
    refine (callsIn_wide.2 hN).mono ?_
    rintro e w1 ⟨rfl, hbl⟩
    have hb1 : w1.heap[B5]? = some (.cells #[.int .i64 x] 3 (0, 0)) := (hbl.block B5 hlt).trans hb'
    have c1 : w1.cell? ⟨B5, 0, none⟩ = some (.int .i64 x) := by rw [Lib.cell_of_heap hb1]; rfl
    have z1 : w1.frozen? ⟨B5, 0, none⟩ = false := Lib.frozen_of_heap hb1 _
    have hQ1 := hK' w1 hbl
    have hb3 : w1.heap[B2]? = some (.cells #[.int .i64 p0, .int .i64 p1] 55 (0, 0)) := (hbl.block B2 hlt2).trans hb2'
    have e0 : w1.cell? ⟨B2, 0, none⟩ = some (.int .i64 p0) := by rw [Lib.cell_of_heap hb3]; rfl
    have e1 : w1.cell? ⟨B2, 1, none⟩ = some (.int .i64 p1) := by rw [Lib.cell_of_heap hb3]; rfl
    have f0 : w1.frozen? ⟨B2, 0, none⟩ = false := Lib.frozen_of_heap hb3 _
    have f1 : w1.frozen? ⟨B2, 1, none⟩ = false := Lib.frozen_of_heap hb3 _
    refine hK _ _ ?_
    clear hK K
    go_simp
    refine wpAnyIn_ready (rs := [3]) (by kernel_rfl) (by simp) ?_
    refine AllReadyIn.cons rfl (fun K hK => ?_) AllReadyIn.nil
    go_simp
    refine hK _ _ ?_
    clear hK K
    go_simp
    refine wpAnyIn_ready (rs := [4]) (by kernel_rfl) (by simp) ?_
    refine AllReadyIn.cons rfl (fun K hK => ?_) AllReadyIn.nil
    go_simp
    refine hK _ _ ?_
    clear hK K
    go_simp
    exact wpAnyIn_done (by kernel_rfl) hQ1 _
  · go_simp
    refine hK _ _ ?_
    clear hK K
    go_simp
    refine wpAnyIn_ready (rs := [0, 2]) (by kernel_rfl) (by simp) ?_
    refine AllReadyIn.cons rfl (fun K hK => ?_) (AllReadyIn.cons rfl (fun K hK => ?_) AllReadyIn.nil)
    · go_simp
      refine hK _ _ ?_
      clear hK K
      go_simp
      refine wpAnyIn_ready (rs := [2]) (by kernel_rfl) (by simp) ?_
      refine AllReadyIn.cons rfl (fun K hK => ?_) AllReadyIn.nil
      go_simp
      refine (callsIn_wide.2 hN).mono ?_
      rintro e w1 ⟨rfl, hbl⟩
      have hb1 : w1.heap[B5]? = some (.cells #[.int .i64 x] 3 (0, 0)) := (hbl.block B5 hlt).trans hb'
      have c1 : w1.cell? ⟨B5, 0, none⟩ = some (.int .i64 x) := by rw [Lib.cell_of_heap hb1]; rfl
      have z1 : w1.frozen? ⟨B5, 0, none⟩ = false := Lib.frozen_of_heap hb1 _
      have hQ1 := hK' w1 hbl
      have hb3 : w1.heap[B2]? = some (.cells #[.int .i64 p0, .int .i64 p1] 55 (0, 0)) := (hbl.block B2 hlt2).trans hb2'
      have e0 : w1.cell? ⟨B2, 0, none⟩ = some (.int .i64 p0) := by rw [Lib.cell_of_heap hb3]; rfl
      have e1 : w1.cell? ⟨B2, 1, none⟩ = some (.int .i64 p1) := by rw [Lib.cell_of_heap hb3]; rfl
      have f0 : w1.frozen? ⟨B2, 0, none⟩ = false := Lib.frozen_of_heap hb3 _
      have f1 : w1.frozen? ⟨B2, 1, none⟩ = false := Lib.frozen_of_heap hb3 _
      refine hK _ _ ?_
      clear hK K
      go_simp
      refine wpAnyIn_ready (rs := [3]) (by kernel_rfl) (by simp) ?_
      refine AllReadyIn.cons rfl (fun K hK => ?_) AllReadyIn.nil
      go_simp
      refine hK _ _ ?_
      clear hK K
      go_simp
      refine wpAnyIn_ready (rs := [4]) (by kernel_rfl) (by simp) ?_
      refine AllReadyIn.cons rfl (fun K hK => ?_) AllReadyIn.nil
      go_simp
      refine hK _ _ ?_
      clear hK K
      go_simp
      exact wpAnyIn_done (by kernel_rfl) hQ1 _
    · go_simp
      refine (callsIn_wide.2 hN).mono ?_
      rintro e w1 ⟨rfl, hbl⟩
      have hb1 : w1.heap[B5]? = some (.cells #[.int .i64 x] 3 (0, 0)) := (hbl.block B5 hlt).trans hb'
      have c1 : w1.cell? ⟨B5, 0, none⟩ = some (.int .i64 x) := by rw [Lib.cell_of_heap hb1]; rfl
      have z1 : w1.frozen? ⟨B5, 0, none⟩ = false := Lib.frozen_of_heap hb1 _
      have hQ1 := hK' w1 hbl
      have hb3 : w1.heap[B2]? = some (.cells #[.int .i64 p0, .int .i64 p1] 55 (0, 0)) := (hbl.block B2 hlt2).trans hb2'
      have e0 : w1.cell? ⟨B2, 0, none⟩ = some (.int .i64 p0) := by rw [Lib.cell_of_heap hb3]; rfl
      have e1 : w1.cell? ⟨B2, 1, none⟩ = some (.int .i64 p1) := by rw [Lib.cell_of_heap hb3]; rfl
      have f0 : w1.frozen? ⟨B2, 0, none⟩ = false := Lib.frozen_of_heap hb3 _
      have f1 : w1.frozen? ⟨B2, 1, none⟩ = false := Lib.frozen_of_heap hb3 _
      refine hK _ _ ?_
      clear hK K
      go_simp
      refine wpAnyIn_ready (rs := [0]) (by kernel_rfl) (by simp) ?_
      refine AllReadyIn.cons rfl (fun K hK => ?_) AllReadyIn.nil
      go_simp
      refine hK _ _ ?_
      clear hK K
      go_simp
      refine wpAnyIn_ready (rs := [3]) (by kernel_rfl) (by simp) ?_
      refine AllReadyIn.cons rfl (fun K hK => ?_) AllReadyIn.nil
      go_simp
      refine hK _ _ ?_
      clear hK K
      go_simp
      refine wpAnyIn_ready (rs := [4]) (by kernel_rfl) (by simp) ?_
      refine AllReadyIn.cons rfl (fun K hK => ?_) AllReadyIn.nil
      go_simp
      refine hK _ _ ?_
      clear hK K
      go_simp
      exact wpAnyIn_done (by kernel_rfl) hQ1 _

end Go.Proofs.Ytkhnfmdhdfpdhaa
