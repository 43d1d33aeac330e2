/-
  What is proved here: what the document's own makes answers (for StyleScript).
  What is proved here: the last region of the document's own style (for StyleScript).
  What is proved here: what the document's own style answers of a style, given what it answers of its parent (for StyleScript).
-/
import Derived.Test.YtifkelpgpdgenaaXResolve
import Derived.Test.YtifkelpgpdgenaaXMakes
import Derived.Test.YtifkelpgpdgenaaWalkI
import Derived.Test.YtifkelpgpdgenaaXRefF
namespace Go.Proofs.Ytifkelpgpdgenaa
open Go.RowKit Go.Shelf

section
variable {ρ : Operand → Value} {w : World} {ps : String} {A : Array Edge} {G : Option (Nat × Bool)} {d : Option Nat} {i j : Nat}
theorem o_index44 (b o l c k : Nat) (hk : k < l) (h : ρ (.tmp i) = .slice (some ⟨b, o, none⟩) l c) (h' : ρ (.tmp j) = .int .i64 k) : (execOp ρ { dst := d, op := Op.indexAddr 44 (Operand.tmp i) (Operand.tmp j), type := 0, pos := ps, after := A, guard := G }).run Try.prog w = .ok (.value (.pointer (some ⟨b, o + k * 2, none⟩))) w := by
  go_simp
theorem o_load37 (b o : Nat) (n x : Int) (h0 : w.cell? ⟨b, o, none⟩ = some (.int .i64 n)) (h1 : w.cell? ⟨b, o + 1, none⟩ = some (.int .i64 x)) (h : ρ (.tmp i) = .pointer (some ⟨b, o, none⟩)) : (execOp ρ { dst := d, op := Op.load 37 (Operand.tmp i), type := 37, pos := ps, after := A, guard := G }).run Try.prog w = .ok (.value (.agg #[.int .i64 n, .int .i64 x])) w := by
  go_simp
end

def fr58 (v0 v1 v2 v3 v4 v5 v6 v7 v8 v9 v10 v11 v12 v13 v14 v15 v16 v17 v18 : Value) : Act := { tmps := #[v0, v1, v2, v3, v4, v5, v6, v7, v8, v9, v10, v11, v12, v13, v14, v15, v16, v17, v18], defers := [] }

def ops58 (ps : String) : Array Oper := #[{ dst := some 12, op := Op.load 23 (Operand.tmp 2), type := 23, pos := ps, after := #[], guard := none }, { dst := some 13, op := Op.move (Operand.tmp 1), type := 44, pos := ps, after := #[], guard := none }, { dst := some 14, op := Op.move (Operand.tmp 5), type := 3, pos := ps, after := #[], guard := none }, { dst := some 15, op := Op.indexAddr 44 (Operand.tmp 13) (Operand.tmp 14), type := 0, pos := ps, after := #[{ on := 1, ground := Ground.data }, { on := 2, ground := Ground.data }], guard := none }, { dst := some 16, op := Op.load 37 (Operand.tmp 15), type := 37, pos := ps, after := #[{ on := 3, ground := Ground.data }], guard := none }, { dst := some 17, op := Op.call { callee := Callee.value (Operand.func 19), args := #[Operand.tmp 12, Operand.tmp 16], argTypes := #[23, 37] }, type := 23, pos := ps, after := #[{ on := 0, ground := Ground.data }, { on := 4, ground := Ground.data }], guard := none }, { dst := none, op := Op.store 23 (Operand.tmp 2) (Operand.tmp 17), type := 0, pos := ps, after := #[{ on := 5, ground := Ground.data }, { on := 5, ground := Ground.chain }, { on := 0, ground := Ground.phase }, { on := 1, ground := Ground.phase }, { on := 2, ground := Ground.phase }, { on := 3, ground := Ground.phase }, { on := 4, ground := Ground.phase }, { on := 5, ground := Ground.phase }], guard := none }]

set_option maxRecDepth 100000 in
set_option maxHeartbeats 4000000 in
theorem refMakes_region (Q : Exit → Act → World → Prop) (hQ : ∀ c x (n : Nat) v w, Q (.panic c) (x.put (some n) v) w → Q (.panic c) x w) (id : Nat) (ps : String) {v0 v3 v4 v6 v7 v8 v9 v10 v11 v12 v13 v14 v15 v16 v17 v18 : Value}
    (b o len cap k B : Nat) (hk : k < len) (hne : b ≠ B) (n x : Int) (m m' : List Int) (hm : m.length = 17) (hm' : m'.length = 17) (W : World) (hP : PB W B 23 m) (hb : b < W.heap.size)
    (hwi : ∀ w, Calls Try.prog 19 #[.agg (prC m), .agg #[.int .i64 n, .int .i64 x]] w fun e w' => e = .returned (.agg (prC m')) ∧ Below w.heap.size w w')
    (hS0 : W.cell? ⟨b, o + k * 2, none⟩ = some (.int .i64 n) ∧ W.cell? ⟨b, o + k * 2 + 1, none⟩ = some (.int .i64 x))
    (hq : ∀ w', Below W.heap.size W w' → PB w' B 23 m → Q .normal (fr58 v0 (.slice (some ⟨b, o, none⟩) len cap) (.pointer (some ⟨B, 0, none⟩)) v3 v4 (.int .i64 k) v6 v7 v8 v9 v10 v11 (.agg (prC m)) (.slice (some ⟨b, o, none⟩) len cap) (.int .i64 k) (.pointer (some ⟨b, o + k * 2, none⟩)) (.agg #[.int .i64 n, .int .i64 x]) (.agg (prC m')) v18) (w'.setRow B (prC m'))) :
    (Code.region id (ops58 ps) true).wp Try.prog Q (fr58 v0 (.slice (some ⟨b, o, none⟩) len cap) (.pointer (some ⟨B, 0, none⟩)) v3 v4 (.int .i64 k) v6 v7 v8 v9 v10 v11 v12 v13 v14 v15 v16 v17 v18) W := by
  refine wp_region_held (S := fun w' => w'.cell? ⟨b, o + k * 2, none⟩ = some (.int .i64 n) ∧ w'.cell? ⟨b, o + k * 2 + 1, none⟩ = some (.int .i64 x)) (by kernel_rfl) ?_
  change wpAnyH _ _ _ _ _ 7 _ _ (World.drew W)
  have C0 : Below W.heap.size W W.drew := below_drew (Below.refl _ _)
  have hS : W.drew.cell? ⟨b, o + k * 2, none⟩ = some (.int .i64 n) ∧ W.drew.cell? ⟨b, o + k * 2 + 1, none⟩ = some (.int .i64 x) := hS0
  have hPd : PB W.drew B 23 m := ⟨hP.len, hP.row⟩
  refine take_h (i := 1) (oi := { dst := some 13, op := Op.move (Operand.tmp 1), type := 44, pos := ps, after := #[], guard := none }) (fuel := 6) (v := (.slice (some ⟨b, o, none⟩) len cap)) (fr58 v0 (.slice (some ⟨b, o, none⟩) len cap) (.pointer (some ⟨B, 0, none⟩)) v3 v4 (.int .i64 k) v6 v7 v8 v9 v10 v11 v12 (.slice (some ⟨b, o, none⟩) len cap) v14 v15 v16 v17 v18) (by kernel_rfl) (by kernel_rfl) (by kernel_rfl) (by kernel_rfl) (fun c x w => hQ c x _ _ w) (by kernel_rfl) (fun _ hS => by kernel_rfl) (by kernel_rfl) hS ?_
  refine take_h (i := 2) (oi := { dst := some 14, op := Op.move (Operand.tmp 5), type := 3, pos := ps, after := #[], guard := none }) (fuel := 5) (v := (.int .i64 k)) (fr58 v0 (.slice (some ⟨b, o, none⟩) len cap) (.pointer (some ⟨B, 0, none⟩)) v3 v4 (.int .i64 k) v6 v7 v8 v9 v10 v11 v12 (.slice (some ⟨b, o, none⟩) len cap) (.int .i64 k) v15 v16 v17 v18) (by kernel_rfl) (by kernel_rfl) (by kernel_rfl) (by kernel_rfl) (fun c x w => hQ c x _ _ w) (by kernel_rfl) (fun _ hS => by kernel_rfl) (by kernel_rfl) hS ?_
  refine take_h (i := 3) (oi := { dst := some 15, op := Op.indexAddr 44 (Operand.tmp 13) (Operand.tmp 14), type := 0, pos := ps, after := #[{ on := 1, ground := Ground.data }, { on := 2, ground := Ground.data }], guard := none }) (fuel := 4) (v := (.pointer (some ⟨b, o + k * 2, none⟩))) (fr58 v0 (.slice (some ⟨b, o, none⟩) len cap) (.pointer (some ⟨B, 0, none⟩)) v3 v4 (.int .i64 k) v6 v7 v8 v9 v10 v11 v12 (.slice (some ⟨b, o, none⟩) len cap) (.int .i64 k) (.pointer (some ⟨b, o + k * 2, none⟩)) v16 v17 v18) (by kernel_rfl) (by kernel_rfl) (by kernel_rfl) (by kernel_rfl) (fun c x w => hQ c x _ _ w) (by kernel_rfl) (fun _ hS => o_index44 _ _ _ _ _ hk rfl rfl) (by kernel_rfl) hS ?_
  refine take_h (i := 4) (oi := { dst := some 16, op := Op.load 37 (Operand.tmp 15), type := 37, pos := ps, after := #[{ on := 3, ground := Ground.data }], guard := none }) (fuel := 3) (v := (.agg #[.int .i64 n, .int .i64 x])) (fr58 v0 (.slice (some ⟨b, o, none⟩) len cap) (.pointer (some ⟨B, 0, none⟩)) v3 v4 (.int .i64 k) v6 v7 v8 v9 v10 v11 v12 (.slice (some ⟨b, o, none⟩) len cap) (.int .i64 k) (.pointer (some ⟨b, o + k * 2, none⟩)) (.agg #[.int .i64 n, .int .i64 x]) v17 v18) (by kernel_rfl) (by kernel_rfl) (by kernel_rfl) (by kernel_rfl) (fun c x w => hQ c x _ _ w) (by kernel_rfl) (fun _ hS => o_load37 _ _ _ _ hS.1 hS.2 rfl) (by kernel_rfl) hS ?_
  refine want_h (i := 0) (oi := { dst := some 12, op := Op.load 23 (Operand.tmp 2), type := 23, pos := ps, after := #[], guard := none }) (fuel := 2) (by kernel_rfl) (by kernel_rfl) (by kernel_rfl) fun K hK => ?_
  refine wp_load_row 23 _ rfl B rfl 23 _ (0, 0) _ hPd.row Try.underlying23 rfl (info23l hm) ?_
  refine hK _ _ hS (cast_h (fr58 v0 (.slice (some ⟨b, o, none⟩) len cap) (.pointer (some ⟨B, 0, none⟩)) v3 v4 (.int .i64 k) v6 v7 v8 v9 v10 v11 (.agg (prC m)) (.slice (some ⟨b, o, none⟩) len cap) (.int .i64 k) (.pointer (some ⟨b, o + k * 2, none⟩)) (.agg #[.int .i64 n, .int .i64 x]) v17 v18) (by kernel_rfl) ?_)
  clear hK K
  refine want_h (i := 5) (oi := { dst := some 17, op := Op.call { callee := Callee.value (Operand.func 19), args := #[Operand.tmp 12, Operand.tmp 16], argTypes := #[23, 37] }, type := 23, pos := ps, after := #[{ on := 0, ground := Ground.data }, { on := 4, ground := Ground.data }], guard := none }) (fuel := 1) (by kernel_rfl) (by kernel_rfl) (by kernel_rfl) fun K hK => ?_
  unfold fr58
  go_simp
  refine (hwi _).mono ?_
  rintro e y1 ⟨rfl, hb1⟩
  have C1 : Below W.heap.size W y1 := C0.trans (hb1.mono C0.size)
  clear hb1
  have hS1 : y1.cell? ⟨b, o + k * 2, none⟩ = some (.int .i64 n) ∧ y1.cell? ⟨b, o + k * 2 + 1, none⟩ = some (.int .i64 x) := ⟨(C1.cell hb).trans hS0.1, (C1.cell hb).trans hS0.2⟩
  have hP1 := hP.below C1 hP.lt
  refine hK _ _ hS1 (cast_h (fr58 v0 (.slice (some ⟨b, o, none⟩) len cap) (.pointer (some ⟨B, 0, none⟩)) v3 v4 (.int .i64 k) v6 v7 v8 v9 v10 v11 (.agg (prC m)) (.slice (some ⟨b, o, none⟩) len cap) (.int .i64 k) (.pointer (some ⟨b, o + k * 2, none⟩)) (.agg #[.int .i64 n, .int .i64 x]) (.agg (prC m')) v18) (by kernel_rfl) ?_)
  clear hK K
  refine want_h (i := 6) (oi := { dst := none, op := Op.store 23 (Operand.tmp 2) (Operand.tmp 17), type := 0, pos := ps, after := #[{ on := 5, ground := Ground.data }, { on := 5, ground := Ground.chain }, { on := 0, ground := Ground.phase }, { on := 1, ground := Ground.phase }, { on := 2, ground := Ground.phase }, { on := 3, ground := Ground.phase }, { on := 4, ground := Ground.phase }, { on := 5, ground := Ground.phase }], guard := none }) (fuel := 0) (by kernel_rfl) (by kernel_rfl) (by kernel_rfl) fun K hK => ?_
  refine wp_store_row 23 _ _ rfl B (prC m') rfl rfl 23 _ hP1.row (info23l hm') (by rw [prC_size, prC_size, hm', hm]) (prC_one _) ?_
  have hS2 : (y1.setRow B (prC m')).cell? ⟨b, o + k * 2, none⟩ = some (.int .i64 n) ∧ (y1.setRow B (prC m')).cell? ⟨b, o + k * 2 + 1, none⟩ = some (.int .i64 x) := ⟨(cell_setRow _ hne _).trans hS1.1, (cell_setRow _ hne _).trans hS1.2⟩
  refine hK _ _ hS2 (cast_h (fr58 v0 (.slice (some ⟨b, o, none⟩) len cap) (.pointer (some ⟨B, 0, none⟩)) v3 v4 (.int .i64 k) v6 v7 v8 v9 v10 v11 (.agg (prC m)) (.slice (some ⟨b, o, none⟩) len cap) (.int .i64 k) (.pointer (some ⟨b, o + k * 2, none⟩)) (.agg #[.int .i64 n, .int .i64 x]) (.agg (prC m')) v18) (by kernel_rfl) ?_)
  clear hK K
  exact wpAnyH_done (by kernel_rfl) (hq _ C1 hP1) _

set_option maxRecDepth 100000 in
set_option maxHeartbeats 4000000 in
theorem refMakes_any (l : List Int) (hl : l.length = 17) (v : Value) (qs : List (Int × Int)) (hq : allP qs) (w : World) (hS : SetsAt w v qs) :
    Calls Try.prog 58 #[prV l, v] w fun e w' => e = .returned (prV (applyL l qs)) ∧ Below w.heap.size w w' := by
  obtain ⟨a, cap, rfl, h2⟩ := hS.ex
  have hlen := hS.few
  have hq' : Hid (allP qs) := hq
  clear hq hS
  obtain ⟨w0, hw0⟩ : ∃ w0, (w.alloc (.cells (prC l) 23)).alloc (.cells (prC zeroL) 23) = w0 := ⟨_, rfl⟩
  have hB0 : Below w.heap.size w w0 := by rw [← hw0]; exact ((Below.refl _ w).alloc (Nat.le_refl _) _).alloc (by simp) _
  have hs0 : w0.heap.size = w.heap.size + 2 := by rw [← hw0]; simp
  have hP0 : PB w0 w.heap.size 23 l := by
    rw [← hw0]
    exact (PB.new w hl).below ((Below.refl _ _).alloc (Nat.le_refl _) _) (by simp)
  have hZ0 : PB w0 (w.heap.size + 1) 23 zeroL := by
    rw [← hw0]
    have := PB.new (w.alloc (.cells (prC l) 23)) (T := 23) (l := zeroL) rfl
    simpa using this
  unfold prV
  go_enter Try.func58, Try.ntmps58
  go_wp2_with fail
  have hz : (Obj.cells #[Value.int IntKind.i64 0, Value.int IntKind.i64 0, Value.int IntKind.i64 0, Value.int IntKind.i64 0, Value.int IntKind.i64 0, Value.int IntKind.i64 0, Value.int IntKind.i64 0, Value.int IntKind.i64 0, Value.int IntKind.i64 0, Value.int IntKind.i64 0, Value.int IntKind.i64 0, Value.int IntKind.i64 0, Value.int IntKind.i64 0, Value.int IntKind.i64 0, Value.int IntKind.i64 0, Value.int IntKind.i64 0, Value.int IntKind.i64 0] 23) = .cells (prC zeroL) 23 := rfl
  rw [hz, hw0]
  clear hz hw0
  go_loopw [5] (fun i wr => ∃ k : Nat, k ≤ qs.length ∧ i = .int .i64 k ∧ Below w.heap.size w wr ∧ Hid (PB wr w.heap.size 23 (applyL l (qs.take k)) ∧ PB wr (w.heap.size + 1) 23 zeroL ∧ w.heap.size + 2 ≤ wr.heap.size)) (fun i _ => qs.length - (intOf i).toNat)
  case atStart => exact ⟨0, by omega, rfl, hB0, hP0, hZ0, by omega⟩
  case round =>
    obtain ⟨k, hk, rfl, hb, hH⟩ := hrel
    obtain ⟨hP, hZ, hs⟩ := hH.out
    clear hH
    by_cases hlt : k < qs.length
    · rcases h2 with h2 | ⟨b, o, rfl, hbl, hc⟩
      · rw [h2] at hlt; simp at hlt
      · obtain ⟨c0, c1⟩ := hc k hlt
        have hw : ∀ j v, w.cell? ⟨b, j, none⟩ = some v → wr.cell? ⟨b, j, none⟩ = some v := fun j v hv => by rw [← hv]; exact hb.cell hbl
        have d0 := hw _ _ c0; have d1 := hw _ _ c1
        clear hw c0 c1 hc
        have hn := hq'.out qs[k] (List.getElem_mem hlt)
        have hst := applyL_step l qs hlt
        have hl' : (applyL l (qs.take k)).length = 17 := by rw [applyL_length]; exact hl
        generalize applyL l (qs.take k) = m at *
        have hwi := refWith_any m hl' qs[k].1 qs[k].2 hn
        have hset : setP m (qs[k].1, qs[k].2) = applyL l (qs.take (k + 1)) := hst.symm
        rw [hset] at hwi
        have hl2 : (applyL l (qs.take (k + 1))).length = 17 := by rw [applyL_length]; exact hl
        clear hst hset
        generalize qs[k].1 = n at *
        generalize qs[k].2 = x at *
        unfold prV seV at hwi
        go_wp2_with fail
        refine refMakes_region _ (by intros; assumption) _ _ b o qs.length cap k w.heap.size hlt (by omega) n x m _ hl' hl2 wr hP (by omega) hwi ⟨d0, d1⟩ ?_
        intro w3 hb3 hP3
        have hE : Hid _ := And.intro (hP3.setRow hl2) (And.intro (show PB (w3.setRow w.heap.size (prC (applyL l (qs.take (k + 1))))) (w.heap.size + 1) 23 zeroL from ⟨rfl, (setRow_other _ (by omega) _).trans (hb3.block _ hZ.lt |>.trans hZ.row)⟩) (And.intro (below_setRow (hb.trans (hb3.mono hb.size)) (Nat.le_refl w.heap.size) (prC (applyL l (qs.take (k + 1))))) (show w.heap.size + 2 ≤ (w3.setRow w.heap.size (prC (applyL l (qs.take (k + 1))))).heap.size by rw [setRow_size]; have := hb3.size; omega)))
        clear hP hZ hP3 hwi hP0 hZ0 hB0
        generalize w3.setRow w.heap.size (prC (applyL l (qs.take (k + 1)))) = w4 at *
        unfold fr58
        go_wp2_with fail
        go_roundw
        case rel => exact ⟨k + 1, by omega, by simp, hE.out.2.2.1, hE.out.1, hE.out.2.1, hE.out.2.2.2⟩
        case measure => simp [intOf]; omega
    · obtain rfl : k = qs.length := by omega
      have hl' : (applyL l (qs.take qs.length)).length = 17 := by rw [applyL_length]; exact hl
      have hE : Hid _ := And.intro (hZ.setRow hl') (below_setRow hb (Nat.le_succ w.heap.size) (prC (applyL l (qs.take qs.length))))
      go_wp2_with (first
        | refine wpList_load_row rfl 23 _ rfl w.heap.size rfl 23 _ (0, 0) _ hP.row Try.underlying23 rfl (info23l hl') ?_
        | refine wpList_store_row rfl 23 _ _ rfl (w.heap.size + 1) (prC (applyL l (qs.take qs.length))) rfl rfl 23 _ hZ.row (info23l hl') (by rw [prC_size, prC_size, hl']; rfl) (prC_one _) ?_)
      refine bodyPost_ret (results_cell_row rfl _ _ (w.heap.size + 1) 23 _ (0, 0) _ rfl hE.out.1.row Try.underlying23 rfl (info23l hl')) rfl ?_
      exact ⟨by rw [List.take_length], hE.out.2⟩
end Go.Proofs.Ytifkelpgpdgenaa

namespace Go.Proofs.Ytifkelpgpdgenaa
open Go.RowKit Go.Shelf

section
variable {ρ : Operand → Value} {w : World} {ps : String} {A : Array Edge} {G : Option (Nat × Bool)} {d : Option Nat} {i j : Nat}
theorem o_field88_1 (t : Nat) (h : ρ (.tmp i) = .pointer (some ⟨t, 0, none⟩)) : (execOp ρ { dst := d, op := Op.fieldAddr 88 (Operand.tmp i) 1, type := 0, pos := ps, after := A, guard := G }).run Try.prog w = .ok (.value (.pointer (some ⟨t, 1, none⟩))) w := by
  go_simp
theorem o_field88_2 (t : Nat) (h : ρ (.tmp i) = .pointer (some ⟨t, 0, none⟩)) : (execOp ρ { dst := d, op := Op.fieldAddr 88 (Operand.tmp i) 2, type := 0, pos := ps, after := A, guard := G }).run Try.prog w = .ok (.value (.pointer (some ⟨t, 2, none⟩))) w := by
  go_simp
end

def fr59 (v0 v1 v2 v3 v4 v5 v6 v7 v8 v9 v10 v11 v12 v13 v14 v15 v16 v17 v18 v19 v20 v21 v22 v23 v24 : Value) : Act := { tmps := #[v0, v1, v2, v3, v4, v5, v6, v7, v8, v9, v10, v11, v12, v13, v14, v15, v16, v17, v18, v19, v20, v21, v22, v23, v24], defers := [] }

def ops59 (ps : String) : Array Oper := #[{ dst := some 18, op := Op.move (Operand.tmp 0), type := 47, pos := ps, after := #[], guard := none }, { dst := some 19, op := Op.fieldAddr 88 (Operand.tmp 5) 1, type := 0, pos := ps, after := #[], guard := none }, { dst := some 20, op := Op.load 9 (Operand.tmp 19), type := 9, pos := ps, after := #[{ on := 1, ground := Ground.data }], guard := none }, { dst := some 21, op := Op.call { callee := Callee.value (Operand.func 59), args := #[Operand.tmp 18, Operand.tmp 20], argTypes := #[47, 9] }, type := 23, pos := ps, after := #[{ on := 0, ground := Ground.data }, { on := 2, ground := Ground.data }], guard := none }, { dst := some 22, op := Op.fieldAddr 88 (Operand.tmp 5) 2, type := 0, pos := ps, after := #[], guard := none }, { dst := some 23, op := Op.load 44 (Operand.tmp 22), type := 44, pos := ps, after := #[{ on := 4, ground := Ground.data }], guard := none }, { dst := some 24, op := Op.call { callee := Callee.value (Operand.func 58), args := #[Operand.tmp 21, Operand.tmp 23], argTypes := #[23, 44] }, type := 23, pos := ps, after := #[{ on := 3, ground := Ground.data }, { on := 5, ground := Ground.data }, { on := 3, ground := Ground.chain }], guard := none }, { dst := none, op := Op.store 23 (Operand.tmp 4) (Operand.tmp 24), type := 0, pos := ps, after := #[{ on := 6, ground := Ground.data }, { on := 6, ground := Ground.chain }, { on := 0, ground := Ground.phase }, { on := 1, ground := Ground.phase }, { on := 2, ground := Ground.phase }, { on := 3, ground := Ground.phase }, { on := 4, ground := Ground.phase }, { on := 5, ground := Ground.phase }, { on := 6, ground := Ground.phase }], guard := none }]

set_option maxRecDepth 100000 in
set_option maxHeartbeats 4000000 in
theorem refStyle_region (Q : Exit → Act → World → Prop) (hQ : ∀ c x (n : Nat) v w, Q (.panic c) (x.put (some n) v) w → Q (.panic c) x w) (id : Nat) (ps : String) {v1 v2 v3 v6 v7 v8 v9 v10 v11 v12 v13 v14 v15 v16 v17 : Value}
    (g B4 B5 : Nat) (p : Str) (L : List (Int × Int)) (hLp : allP L) (a : Option Addr) (cap : Nat) (R : List Int → Prop) (hRl : ∀ m, R m → m.length = 17) (W : World) (hZ : PB W B4 23 zeroL) (h5 : B5 < W.heap.size) (hne : B5 ≠ B4) (hL : SetsAt W (.slice a L.length cap) L)
    (hmk : ∀ W', Below W.heap.size W W' → Calls Try.prog 59 #[.pointer (some ⟨g, 0, none⟩), .string p] W' fun e w' => ∃ m, R m ∧ e = .returned (.agg (prC m)) ∧ Below W'.heap.size W' w')
    (hS0 : W.cell? ⟨B5, 1, none⟩ = some (.string p) ∧ W.cell? ⟨B5, 2, none⟩ = some (.slice a L.length cap))
    (hq : ∀ w' m, R m → Below W.heap.size W w' → PB w' B4 23 zeroL → Q .normal (fr59 (.pointer (some ⟨g, 0, none⟩)) v1 v2 v3 (.pointer (some ⟨B4, 0, none⟩)) (.pointer (some ⟨B5, 0, none⟩)) v6 v7 v8 v9 v10 v11 v12 v13 v14 v15 v16 v17 (.pointer (some ⟨g, 0, none⟩)) (.pointer (some ⟨B5, 1, none⟩)) (.string p) (.agg (prC m)) (.pointer (some ⟨B5, 2, none⟩)) (.slice a L.length cap) (.agg (prC (applyL m L)))) (w'.setRow B4 (prC (applyL m L)))) :
    (Code.region id (ops59 ps) true).wp Try.prog Q (fr59 (.pointer (some ⟨g, 0, none⟩)) v1 v2 v3 (.pointer (some ⟨B4, 0, none⟩)) (.pointer (some ⟨B5, 0, none⟩)) v6 v7 v8 v9 v10 v11 v12 v13 v14 v15 v16 v17 undef undef undef undef undef undef undef) W := by
  refine wp_region_held (S := fun w' => w'.cell? ⟨B5, 1, none⟩ = some (.string p) ∧ w'.cell? ⟨B5, 2, none⟩ = some (.slice a L.length cap)) (by kernel_rfl) ?_
  change wpAnyH _ _ _ _ _ 8 _ _ (World.drew W)
  have C0 : Below W.heap.size W W.drew := below_drew (Below.refl _ _)
  have hS : W.drew.cell? ⟨B5, 1, none⟩ = some (.string p) ∧ W.drew.cell? ⟨B5, 2, none⟩ = some (.slice a L.length cap) := hS0
  refine take_h (i := 0) (oi := { dst := some 18, op := Op.move (Operand.tmp 0), type := 47, pos := ps, after := #[], guard := none }) (fuel := 7) (v := (.pointer (some ⟨g, 0, none⟩))) (fr59 (.pointer (some ⟨g, 0, none⟩)) v1 v2 v3 (.pointer (some ⟨B4, 0, none⟩)) (.pointer (some ⟨B5, 0, none⟩)) v6 v7 v8 v9 v10 v11 v12 v13 v14 v15 v16 v17 (.pointer (some ⟨g, 0, none⟩)) undef undef undef undef undef undef) (by kernel_rfl) (by kernel_rfl) (by kernel_rfl) (by kernel_rfl) (fun c x w => hQ c x _ _ w) (by kernel_rfl) (fun _ hS => by kernel_rfl) (by kernel_rfl) hS ?_
  refine take_h (i := 1) (oi := { dst := some 19, op := Op.fieldAddr 88 (Operand.tmp 5) 1, type := 0, pos := ps, after := #[], guard := none }) (fuel := 6) (v := (.pointer (some ⟨B5, 1, none⟩))) (fr59 (.pointer (some ⟨g, 0, none⟩)) v1 v2 v3 (.pointer (some ⟨B4, 0, none⟩)) (.pointer (some ⟨B5, 0, none⟩)) v6 v7 v8 v9 v10 v11 v12 v13 v14 v15 v16 v17 (.pointer (some ⟨g, 0, none⟩)) (.pointer (some ⟨B5, 1, none⟩)) undef undef undef undef undef) (by kernel_rfl) (by kernel_rfl) (by kernel_rfl) (by kernel_rfl) (fun c x w => hQ c x _ _ w) (by kernel_rfl) (fun _ hS => o_field88_1 _ rfl) (by kernel_rfl) hS ?_
  refine take_h (i := 2) (oi := { dst := some 20, op := Op.load 9 (Operand.tmp 19), type := 9, pos := ps, after := #[{ on := 1, ground := Ground.data }], guard := none }) (fuel := 5) (v := (.string p)) (fr59 (.pointer (some ⟨g, 0, none⟩)) v1 v2 v3 (.pointer (some ⟨B4, 0, none⟩)) (.pointer (some ⟨B5, 0, none⟩)) v6 v7 v8 v9 v10 v11 v12 v13 v14 v15 v16 v17 (.pointer (some ⟨g, 0, none⟩)) (.pointer (some ⟨B5, 1, none⟩)) (.string p) undef undef undef undef) (by kernel_rfl) (by kernel_rfl) (by kernel_rfl) (by kernel_rfl) (fun c x w => hQ c x _ _ w) (by kernel_rfl) (fun _ hS => o_load9 _ _ hS.1 rfl) (by kernel_rfl) hS ?_
  refine take_h (i := 4) (oi := { dst := some 22, op := Op.fieldAddr 88 (Operand.tmp 5) 2, type := 0, pos := ps, after := #[], guard := none }) (fuel := 4) (v := (.pointer (some ⟨B5, 2, none⟩))) (fr59 (.pointer (some ⟨g, 0, none⟩)) v1 v2 v3 (.pointer (some ⟨B4, 0, none⟩)) (.pointer (some ⟨B5, 0, none⟩)) v6 v7 v8 v9 v10 v11 v12 v13 v14 v15 v16 v17 (.pointer (some ⟨g, 0, none⟩)) (.pointer (some ⟨B5, 1, none⟩)) (.string p) undef (.pointer (some ⟨B5, 2, none⟩)) undef undef) (by kernel_rfl) (by kernel_rfl) (by kernel_rfl) (by kernel_rfl) (fun c x w => hQ c x _ _ w) (by kernel_rfl) (fun _ hS => o_field88_2 _ rfl) (by kernel_rfl) hS ?_
  refine take_h (i := 5) (oi := { dst := some 23, op := Op.load 44 (Operand.tmp 22), type := 44, pos := ps, after := #[{ on := 4, ground := Ground.data }], guard := none }) (fuel := 3) (v := (.slice a L.length cap)) (fr59 (.pointer (some ⟨g, 0, none⟩)) v1 v2 v3 (.pointer (some ⟨B4, 0, none⟩)) (.pointer (some ⟨B5, 0, none⟩)) v6 v7 v8 v9 v10 v11 v12 v13 v14 v15 v16 v17 (.pointer (some ⟨g, 0, none⟩)) (.pointer (some ⟨B5, 1, none⟩)) (.string p) undef (.pointer (some ⟨B5, 2, none⟩)) (.slice a L.length cap) undef) (by kernel_rfl) (by kernel_rfl) (by kernel_rfl) (by kernel_rfl) (fun c x w => hQ c x _ _ w) (by kernel_rfl) (fun _ hS => o_load44 _ _ hS.2 rfl) (by kernel_rfl) hS ?_
  refine want_h (i := 3) (oi := { dst := some 21, op := Op.call { callee := Callee.value (Operand.func 59), args := #[Operand.tmp 18, Operand.tmp 20], argTypes := #[47, 9] }, type := 23, pos := ps, after := #[{ on := 0, ground := Ground.data }, { on := 2, ground := Ground.data }], guard := none }) (fuel := 2) (by kernel_rfl) (by kernel_rfl) (by kernel_rfl) fun K hK => ?_
  unfold fr59
  go_simp
  refine (hmk _ C0).mono ?_
  rintro e y1 ⟨m, hm, rfl, hb1⟩
  have C1 : Below W.heap.size W y1 := C0.trans (hb1.mono C0.size)
  have hml := hRl m hm
  clear hb1
  have hS1 : y1.cell? ⟨B5, 1, none⟩ = some (.string p) ∧ y1.cell? ⟨B5, 2, none⟩ = some (.slice a L.length cap) := ⟨(C1.cell h5).trans hS0.1, (C1.cell h5).trans hS0.2⟩
  refine hK _ _ hS1 (cast_h (fr59 (.pointer (some ⟨g, 0, none⟩)) v1 v2 v3 (.pointer (some ⟨B4, 0, none⟩)) (.pointer (some ⟨B5, 0, none⟩)) v6 v7 v8 v9 v10 v11 v12 v13 v14 v15 v16 v17 (.pointer (some ⟨g, 0, none⟩)) (.pointer (some ⟨B5, 1, none⟩)) (.string p) (.agg (prC m)) (.pointer (some ⟨B5, 2, none⟩)) (.slice a L.length cap) undef) (by kernel_rfl) ?_)
  clear hK K
  refine want_h (i := 6) (oi := { dst := some 24, op := Op.call { callee := Callee.value (Operand.func 58), args := #[Operand.tmp 21, Operand.tmp 23], argTypes := #[23, 44] }, type := 23, pos := ps, after := #[{ on := 3, ground := Ground.data }, { on := 5, ground := Ground.data }, { on := 3, ground := Ground.chain }], guard := none }) (fuel := 1) (by kernel_rfl) (by kernel_rfl) (by kernel_rfl) fun K hK => ?_
  unfold fr59
  go_simp
  refine (refMakes_any m hml _ L hLp _ (hL.below C1)).mono ?_
  rintro e y2 ⟨rfl, hb2⟩
  have C2 : Below W.heap.size W y2 := C1.trans (hb2.mono C1.size)
  clear hb2
  have hS2 : y2.cell? ⟨B5, 1, none⟩ = some (.string p) ∧ y2.cell? ⟨B5, 2, none⟩ = some (.slice a L.length cap) := ⟨(C2.cell h5).trans hS0.1, (C2.cell h5).trans hS0.2⟩
  have hZ2 := hZ.below C2 hZ.lt
  have hfl : (applyL m L).length = 17 := by rw [applyL_length]; exact hml
  refine hK _ _ hS2 (cast_h (fr59 (.pointer (some ⟨g, 0, none⟩)) v1 v2 v3 (.pointer (some ⟨B4, 0, none⟩)) (.pointer (some ⟨B5, 0, none⟩)) v6 v7 v8 v9 v10 v11 v12 v13 v14 v15 v16 v17 (.pointer (some ⟨g, 0, none⟩)) (.pointer (some ⟨B5, 1, none⟩)) (.string p) (.agg (prC m)) (.pointer (some ⟨B5, 2, none⟩)) (.slice a L.length cap) (.agg (prC (applyL m L)))) (by kernel_rfl) ?_)
  clear hK K
  refine want_h (i := 7) (oi := { dst := none, op := Op.store 23 (Operand.tmp 4) (Operand.tmp 24), type := 0, pos := ps, after := #[{ on := 6, ground := Ground.data }, { on := 6, ground := Ground.chain }, { on := 0, ground := Ground.phase }, { on := 1, ground := Ground.phase }, { on := 2, ground := Ground.phase }, { on := 3, ground := Ground.phase }, { on := 4, ground := Ground.phase }, { on := 5, ground := Ground.phase }, { on := 6, ground := Ground.phase }], guard := none }) (fuel := 0) (by kernel_rfl) (by kernel_rfl) (by kernel_rfl) fun K hK => ?_
  refine wp_store_row 23 _ _ rfl B4 (prC (applyL m L)) rfl rfl 23 _ hZ2.row (info23l hfl) (by rw [prC_size, prC_size, hfl]; exact hZ2.len) (prC_one _) ?_
  have hS3 : (y2.setRow B4 (prC (applyL m L))).cell? ⟨B5, 1, none⟩ = some (.string p) ∧ (y2.setRow B4 (prC (applyL m L))).cell? ⟨B5, 2, none⟩ = some (.slice a L.length cap) := ⟨(cell_setRow _ hne _).trans hS2.1, (cell_setRow _ hne _).trans hS2.2⟩
  refine hK _ _ hS3 (cast_h (fr59 (.pointer (some ⟨g, 0, none⟩)) v1 v2 v3 (.pointer (some ⟨B4, 0, none⟩)) (.pointer (some ⟨B5, 0, none⟩)) v6 v7 v8 v9 v10 v11 v12 v13 v14 v15 v16 v17 (.pointer (some ⟨g, 0, none⟩)) (.pointer (some ⟨B5, 1, none⟩)) (.string p) (.agg (prC m)) (.pointer (some ⟨B5, 2, none⟩)) (.slice a L.length cap) (.agg (prC (applyL m L)))) (by kernel_rfl) ?_)
  clear hK K
  exact wpAnyH_done (by kernel_rfl) (hq _ m hm C2 hZ2) _
end Go.Proofs.Ytifkelpgpdgenaa

namespace Go.Proofs.Ytifkelpgpdgenaa
open Go.RowKit Go.Shelf

variable {X : Nat → Prop}
set_option maxRecDepth 100000 in
set_option maxHeartbeats 2000000 in
theorem refStyle_step (g : Nat) (T : List (Str × Sty)) (s : Str) (hs : s ≠ e0) (w : World) (hR : RefAt X w g T) (i : Nat) (hi : i < T.length) (hLp : allP T[i].2.2) (R : List Int → Prop) (hRl : ∀ m, R m → m.length = 17)
    (hAt : ∀ W, Below w.heap.size w W → Calls Try.prog 44 #[.pointer (some ⟨g, 0, none⟩), .string s] W fun e w' => e = .returned (.int .i64 i) ∧ w' = W)
    (hmk : ∀ W, Below w.heap.size w W → Calls Try.prog 59 #[.pointer (some ⟨g, 0, none⟩), .string T[i].2.1] W fun e w' => ∃ m, R m ∧ e = .returned (.agg (prC m)) ∧ Below W.heap.size W w') :
    Calls Try.prog 59 #[.pointer (some ⟨g, 0, none⟩), .string s] w fun e w' => ∃ m, R m ∧ e = .returned (.agg (prC (applyL m T[i].2.2))) ∧ Below w.heap.size w w' := by
  have hg := hR.lt
  obtain ⟨v, hv, hS⟩ := hR.ex
  obtain ⟨a, cap, rfl, h2⟩ := hS.ex
  have hlen := hS.few
  have hq : (ByteArray.toList s).isEmpty = false := by first | exact isEmpty_no hs | exact isEmpty_no (size_pos hs)
  clear hS
  rcases h2 with h2 | ⟨b, o, rfl, hbl, _, hc⟩
  · rw [h2] at hi; simp at hi
  obtain ⟨c0, c1, a', cap', c2, hLx⟩ := hc i hi
  have hL := hLx.toSetsAt
  clear hc
  obtain ⟨w0, hw0⟩ : ∃ w0, (w.alloc (.cells (prC zeroL) 23)) = w0 := ⟨_, rfl⟩
  have hB0 : Below w.heap.size w w0 := by rw [← hw0]; exact ((Below.refl _ w).alloc (Nat.le_refl _) _)
  have hs0 : w0.heap.size = w.heap.size + 1 := by rw [← hw0]; simp
  have hZ0 : PB w0 w.heap.size 23 zeroL := by rw [← hw0]; exact PB.new w rfl
  have d0 := (hB0.cell hbl).trans c0
  have d1 := (hB0.cell hbl).trans c1
  have d2 := (hB0.cell hbl).trans c2
  have dv := (hB0.cell hg).trans hv
  clear c0 c1 c2 hv
  have hbl' : b < w0.heap.size := by omega
  have hg' : g < w0.heap.size := by omega
  obtain ⟨W1, hW1⟩ : ∃ W1, (w0.alloc (.cells #[.string T[i].1, .string T[i].2.1, .slice a' T[i].2.2.length cap'] 88)).drew = W1 := ⟨_, rfl⟩
  have hB1 : Below w0.heap.size w0 W1 := by rw [← hW1]; exact below_drew ((Below.refl _ w0).alloc (Nat.le_refl _) _)
  have hs1 : W1.heap.size = w.heap.size + 2 := by rw [← hW1]; simp [World.drew]; omega
  have hx : W1.heap[w.heap.size + 1]? = some (.cells #[.string T[i].1, .string T[i].2.1, .slice a' T[i].2.2.length cap'] 88 (0, 0)) := by rw [← hW1, ← hs0]; exact heap_new w0 _
  have hBB : Below w.heap.size w W1 := hB0.trans (hB1.mono (by omega))
  have e1 : W1.cell? ⟨w.heap.size + 1, 1, none⟩ = some (.string T[i].2.1) := by rw [Lib.cell_of_heap hx]; rfl
  have e2 : W1.cell? ⟨w.heap.size + 1, 2, none⟩ = some (.slice a' T[i].2.2.length cap') := by rw [Lib.cell_of_heap hx]; rfl
  have hP : Hid _ := And.intro (hZ0.below hB1 hZ0.lt) (And.intro (hL.below hBB) (And.intro e1 e2))
  have hmk' : Hid _ := fun W' (hW' : Below W1.heap.size W1 W') => hmk W' (hBB.trans (hW'.mono hBB.size))
  replace hLp : Hid _ := hLp
  replace hRl : Hid _ := hRl
  replace hBB : Hid _ := hBB
  clear e1 e2 hx hmk hL
  replace hB1 : Hid _ := hB1
  replace hW1 : Hid _ := hW1
  go_enter Try.func59, Try.ntmps59
  go_wp2_with fail
  have hz : (Obj.cells #[Value.int IntKind.i64 0, Value.int IntKind.i64 0, Value.int IntKind.i64 0, Value.int IntKind.i64 0, Value.int IntKind.i64 0, Value.int IntKind.i64 0, Value.int IntKind.i64 0, Value.int IntKind.i64 0, Value.int IntKind.i64 0, Value.int IntKind.i64 0, Value.int IntKind.i64 0, Value.int IntKind.i64 0, Value.int IntKind.i64 0, Value.int IntKind.i64 0, Value.int IntKind.i64 0, Value.int IntKind.i64 0, Value.int IntKind.i64 0] 23) = .cells (prC zeroL) 23 := rfl
  rw [hz, hw0]
  clear hz hw0
  go_region_with (go_at_call 44; refine (hAt _ (by first | exact below_drew hB0 | exact (below_drew hB0).alloc (by simp; omega) _)).mono ?_; rintro e w' ⟨rfl, hww⟩; subst w')
  all_goals
    rw [hW1.out]
    go_wp2_with fail
    refine refStyle_region _ (fun _ _ _ _ _ h => h) _ _ g w.heap.size (w.heap.size + 1) T[i].2.1 T[i].2.2 hLp.out a' cap' R hRl.out W1 hP.out.1 (by omega) (by omega) hP.out.2.1 hmk'.out hP.out.2.2 ?_
    intro w' m hm hb hZ'
    have hfl : (applyL m T[i].2.2).length = 17 := by rw [applyL_length]; exact hRl.out m hm
    have hE : Hid _ := And.intro (hZ'.setRow hfl) (below_setRow (hBB.out.trans (hb.mono hBB.out.size)) (Nat.le_refl w.heap.size) (prC (applyL m T[i].2.2)))
    unfold fr59
    go_wp2_with fail
    refine bodyPost_ret (results_cell_row rfl _ _ w.heap.size 23 _ (0, 0) _ rfl hE.out.1.row Try.underlying23 rfl (info23l hfl)) rfl ?_
    exact ⟨m, hm, rfl, hE.out.2⟩
end Go.Proofs.Ytifkelpgpdgenaa
