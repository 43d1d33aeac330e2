/-
  What is proved here: what SameTexts answers of names that are the same (for StyleScript).
-/
import Derived.Test.YtifkelpgpdgenaaXRefNames
import Derived.Test.YtifkelpgpdgenaaXPut
namespace Go.Proofs.Ytifkelpgpdgenaa
open Go.RowKit Go.Shelf
open Put
def fr47 (v0 v1 v2 v3 v4 v5 v6 v7 v8 v9 v10 v11 v12 v13 v14 v15 v16 v17 v18 v19 v20 v21 v22 v23 v24 v25 : Value) : Act := { tmps := #[v0, v1, v2, v3, v4, v5, v6, v7, v8, v9, v10, v11, v12, v13, v14, v15, v16, v17, v18, v19, v20, v21, v22, v23, v24, v25], defers := [] }
def ops47 (ps : String) : Array Oper := #[{ dst := some 17, op := Op.move (Operand.tmp 0), type := 65, pos := ps, after := #[], guard := none }, { dst := some 18, op := Op.move (Operand.tmp 5), type := 3, pos := ps, after := #[], guard := none }, { dst := some 19, op := Op.indexAddr 65 (Operand.tmp 17) (Operand.tmp 18), type := 0, pos := ps, after := #[{ on := 0, ground := Ground.data }, { on := 1, ground := Ground.data }], guard := none }, { dst := some 20, op := Op.load 9 (Operand.tmp 19), type := 9, pos := ps, after := #[{ on := 2, ground := Ground.data }], guard := none }, { dst := some 21, op := Op.move (Operand.tmp 1), type := 65, pos := ps, after := #[], guard := none }, { dst := some 22, op := Op.move (Operand.tmp 5), type := 3, pos := ps, after := #[], guard := none }, { dst := some 23, op := Op.indexAddr 65 (Operand.tmp 21) (Operand.tmp 22), type := 0, pos := ps, after := #[{ on := 4, ground := Ground.data }, { on := 5, ground := Ground.data }], guard := none }, { dst := some 24, op := Op.load 9 (Operand.tmp 23), type := 9, pos := ps, after := #[{ on := 6, ground := Ground.data }], guard := none }, { dst := some 25, op := Op.binOp BinOp.neq 9 (Operand.tmp 20) (Operand.tmp 24) 9, type := 4, pos := ps, after := #[{ on := 3, ground := Ground.data }, { on := 7, ground := Ground.data }], guard := none }]

set_option maxRecDepth 100000 in
set_option maxHeartbeats 4000000 in
theorem same_region (Q : Exit → Act → World → Prop) (hQ : ∀ c x (n : Nat) v w, Q (.panic c) (x.put (some n) v) w → Q (.panic c) x w) (id : Nat) (ps : String) {v2 v3 v4 v6 v7 v8 v9 v10 v11 v12 v13 v14 v15 v16 v17 v18 v19 v20 v21 v22 v23 v24 v25 : Value}
    (g h n c1 c2 k : Nat) (u : Str) (hik : k < n) (w0 : World) (hS0 : w0.cell? ⟨g, k, none⟩ = some (.string u) ∧ w0.cell? ⟨h, k, none⟩ = some (.string u))
    (hq : Q .normal (fr47 (.slice (some ⟨g, 0, none⟩) n c1) (.slice (some ⟨h, 0, none⟩) n c2) v2 v3 v4 (.int .i64 k) v6 v7 v8 v9 v10 v11 v12 v13 v14 v15 v16 (.slice (some ⟨g, 0, none⟩) n c1) (.int .i64 k) (.pointer (some ⟨g, k, none⟩)) (.string u) (.slice (some ⟨h, 0, none⟩) n c2) (.int .i64 k) (.pointer (some ⟨h, k, none⟩)) (.string u) (.bool false)) w0.drew) :
    (Code.region id (ops47 ps) true).wp Try.prog Q (fr47 (.slice (some ⟨g, 0, none⟩) n c1) (.slice (some ⟨h, 0, none⟩) n c2) v2 v3 v4 (.int .i64 k) v6 v7 v8 v9 v10 v11 v12 v13 v14 v15 v16 v17 v18 v19 v20 v21 v22 v23 v24 v25) w0 := by
  have hik1 : (k : Int) < n := by omega
  have hik0 : ¬ (k : Int) < 0 := by omega
  refine wp_region_held (S := fun w' => w'.cell? ⟨g, k, none⟩ = some (.string u) ∧ w'.cell? ⟨h, k, none⟩ = some (.string u)) (by kernel_rfl) ?_
  change wpAnyH _ _ _ _ _ 9 _ _ (World.drew w0)
  have hS : w0.drew.cell? ⟨g, k, none⟩ = some (.string u) ∧ w0.drew.cell? ⟨h, k, none⟩ = some (.string u) := hS0
  generalize w0.drew = W at *
  refine take_h (i := 0) (oi := { dst := some 17, op := Op.move (Operand.tmp 0), type := 65, pos := ps, after := #[], guard := none }) (fuel := 8) (v := (.slice (some ⟨g, 0, none⟩) n c1)) (fr47 (.slice (some ⟨g, 0, none⟩) n c1) (.slice (some ⟨h, 0, none⟩) n c2) v2 v3 v4 (.int .i64 k) v6 v7 v8 v9 v10 v11 v12 v13 v14 v15 v16 (.slice (some ⟨g, 0, none⟩) n c1) v18 v19 v20 v21 v22 v23 v24 v25) (by kernel_rfl) (by kernel_rfl) (by kernel_rfl) (by kernel_rfl) (fun c x w => hQ c x _ _ w) (by kernel_rfl) (fun w _ => by kernel_rfl) (by kernel_rfl) hS ?_
  refine take_h (i := 1) (oi := { dst := some 18, op := Op.move (Operand.tmp 5), type := 3, pos := ps, after := #[], guard := none }) (fuel := 7) (v := (.int .i64 k)) (fr47 (.slice (some ⟨g, 0, none⟩) n c1) (.slice (some ⟨h, 0, none⟩) n c2) v2 v3 v4 (.int .i64 k) v6 v7 v8 v9 v10 v11 v12 v13 v14 v15 v16 (.slice (some ⟨g, 0, none⟩) n c1) (.int .i64 k) v19 v20 v21 v22 v23 v24 v25) (by kernel_rfl) (by kernel_rfl) (by kernel_rfl) (by kernel_rfl) (fun c x w => hQ c x _ _ w) (by kernel_rfl) (fun w _ => by kernel_rfl) (by kernel_rfl) hS ?_
  refine take_h (i := 2) (oi := { dst := some 19, op := Op.indexAddr 65 (Operand.tmp 17) (Operand.tmp 18), type := 0, pos := ps, after := #[{ on := 0, ground := Ground.data }, { on := 1, ground := Ground.data }], guard := none }) (fuel := 6) (v := (.pointer (some ⟨g, k, none⟩))) (fr47 (.slice (some ⟨g, 0, none⟩) n c1) (.slice (some ⟨h, 0, none⟩) n c2) v2 v3 v4 (.int .i64 k) v6 v7 v8 v9 v10 v11 v12 v13 v14 v15 v16 (.slice (some ⟨g, 0, none⟩) n c1) (.int .i64 k) (.pointer (some ⟨g, k, none⟩)) v20 v21 v22 v23 v24 v25) (by kernel_rfl) (by kernel_rfl) (by kernel_rfl) (by kernel_rfl) (fun c x w => hQ c x _ _ w) (by kernel_rfl) (fun w hS => by unfold fr47; go_simp) (by kernel_rfl) hS ?_
  refine take_h (i := 3) (oi := { dst := some 20, op := Op.load 9 (Operand.tmp 19), type := 9, pos := ps, after := #[{ on := 2, ground := Ground.data }], guard := none }) (fuel := 5) (v := (.string u)) (fr47 (.slice (some ⟨g, 0, none⟩) n c1) (.slice (some ⟨h, 0, none⟩) n c2) v2 v3 v4 (.int .i64 k) v6 v7 v8 v9 v10 v11 v12 v13 v14 v15 v16 (.slice (some ⟨g, 0, none⟩) n c1) (.int .i64 k) (.pointer (some ⟨g, k, none⟩)) (.string u) v21 v22 v23 v24 v25) (by kernel_rfl) (by kernel_rfl) (by kernel_rfl) (by kernel_rfl) (fun c x w => hQ c x _ _ w) (by kernel_rfl) (fun w hS => by have e0 := hS.1; have e1 := hS.2; unfold fr47; go_simp) (by kernel_rfl) hS ?_
  refine take_h (i := 4) (oi := { dst := some 21, op := Op.move (Operand.tmp 1), type := 65, pos := ps, after := #[], guard := none }) (fuel := 4) (v := (.slice (some ⟨h, 0, none⟩) n c2)) (fr47 (.slice (some ⟨g, 0, none⟩) n c1) (.slice (some ⟨h, 0, none⟩) n c2) v2 v3 v4 (.int .i64 k) v6 v7 v8 v9 v10 v11 v12 v13 v14 v15 v16 (.slice (some ⟨g, 0, none⟩) n c1) (.int .i64 k) (.pointer (some ⟨g, k, none⟩)) (.string u) (.slice (some ⟨h, 0, none⟩) n c2) v22 v23 v24 v25) (by kernel_rfl) (by kernel_rfl) (by kernel_rfl) (by kernel_rfl) (fun c x w => hQ c x _ _ w) (by kernel_rfl) (fun w _ => by kernel_rfl) (by kernel_rfl) hS ?_
  refine take_h (i := 5) (oi := { dst := some 22, op := Op.move (Operand.tmp 5), type := 3, pos := ps, after := #[], guard := none }) (fuel := 3) (v := (.int .i64 k)) (fr47 (.slice (some ⟨g, 0, none⟩) n c1) (.slice (some ⟨h, 0, none⟩) n c2) v2 v3 v4 (.int .i64 k) v6 v7 v8 v9 v10 v11 v12 v13 v14 v15 v16 (.slice (some ⟨g, 0, none⟩) n c1) (.int .i64 k) (.pointer (some ⟨g, k, none⟩)) (.string u) (.slice (some ⟨h, 0, none⟩) n c2) (.int .i64 k) v23 v24 v25) (by kernel_rfl) (by kernel_rfl) (by kernel_rfl) (by kernel_rfl) (fun c x w => hQ c x _ _ w) (by kernel_rfl) (fun w _ => by kernel_rfl) (by kernel_rfl) hS ?_
  refine take_h (i := 6) (oi := { dst := some 23, op := Op.indexAddr 65 (Operand.tmp 21) (Operand.tmp 22), type := 0, pos := ps, after := #[{ on := 4, ground := Ground.data }, { on := 5, ground := Ground.data }], guard := none }) (fuel := 2) (v := (.pointer (some ⟨h, k, none⟩))) (fr47 (.slice (some ⟨g, 0, none⟩) n c1) (.slice (some ⟨h, 0, none⟩) n c2) v2 v3 v4 (.int .i64 k) v6 v7 v8 v9 v10 v11 v12 v13 v14 v15 v16 (.slice (some ⟨g, 0, none⟩) n c1) (.int .i64 k) (.pointer (some ⟨g, k, none⟩)) (.string u) (.slice (some ⟨h, 0, none⟩) n c2) (.int .i64 k) (.pointer (some ⟨h, k, none⟩)) v24 v25) (by kernel_rfl) (by kernel_rfl) (by kernel_rfl) (by kernel_rfl) (fun c x w => hQ c x _ _ w) (by kernel_rfl) (fun w hS => by unfold fr47; go_simp) (by kernel_rfl) hS ?_
  refine take_h (i := 7) (oi := { dst := some 24, op := Op.load 9 (Operand.tmp 23), type := 9, pos := ps, after := #[{ on := 6, ground := Ground.data }], guard := none }) (fuel := 1) (v := (.string u)) (fr47 (.slice (some ⟨g, 0, none⟩) n c1) (.slice (some ⟨h, 0, none⟩) n c2) v2 v3 v4 (.int .i64 k) v6 v7 v8 v9 v10 v11 v12 v13 v14 v15 v16 (.slice (some ⟨g, 0, none⟩) n c1) (.int .i64 k) (.pointer (some ⟨g, k, none⟩)) (.string u) (.slice (some ⟨h, 0, none⟩) n c2) (.int .i64 k) (.pointer (some ⟨h, k, none⟩)) (.string u) v25) (by kernel_rfl) (by kernel_rfl) (by kernel_rfl) (by kernel_rfl) (fun c x w => hQ c x _ _ w) (by kernel_rfl) (fun w hS => by have e0 := hS.1; have e1 := hS.2; unfold fr47; go_simp) (by kernel_rfl) hS ?_
  refine take_h (i := 8) (oi := { dst := some 25, op := Op.binOp BinOp.neq 9 (Operand.tmp 20) (Operand.tmp 24) 9, type := 4, pos := ps, after := #[{ on := 3, ground := Ground.data }, { on := 7, ground := Ground.data }], guard := none }) (fuel := 0) (v := (.bool false)) (fr47 (.slice (some ⟨g, 0, none⟩) n c1) (.slice (some ⟨h, 0, none⟩) n c2) v2 v3 v4 (.int .i64 k) v6 v7 v8 v9 v10 v11 v12 v13 v14 v15 v16 (.slice (some ⟨g, 0, none⟩) n c1) (.int .i64 k) (.pointer (some ⟨g, k, none⟩)) (.string u) (.slice (some ⟨h, 0, none⟩) n c2) (.int .i64 k) (.pointer (some ⟨h, k, none⟩)) (.string u) (.bool false)) (by kernel_rfl) (by kernel_rfl) (by kernel_rfl) (by kernel_rfl) (fun c x w => hQ c x _ _ w) (by kernel_rfl) (fun w hS => by unfold fr47; go_simp) (by kernel_rfl) hS ?_
  exact wpAnyH_done (by kernel_rfl) hq _

set_option maxRecDepth 100000 in
set_option maxHeartbeats 2000000 in
theorem sameTexts_any (v1 v2 : Value) (ns : List Str) (hf : ns.length ≤ 9223372036854775807) (w : World) (h1 : StrsAt w v1 ns) (h2 : StrsAt w v2 ns) :
    Calls Try.prog 47 #[v1, v2] w fun e w' => e = .returned (.bool true) ∧ Below w.heap.size w w' := by
  obtain ⟨a1, c1, rfl, k1⟩ := h1.ex
  obtain ⟨a2, c2, rfl, k2⟩ := h2.ex
  clear h1 h2
  rcases k1 with rfl | ⟨g, rfl, hg, k1⟩
  · go_enter Try.func47, Try.ntmps47
    go_wp2_with fail
    go_loopw [5] (fun i wr => i = .int .i64 0 ∧ wr = w) (fun _ _ => 0)
    case atStart => exact ⟨rfl, rfl⟩
    case round =>
      obtain ⟨rfl, rfl⟩ := hrel
      go_wp2_with fail
      go_ret
      exact ⟨rfl, Below.refl _ _⟩
  · rcases k2 with rfl | ⟨h, rfl, hh, k2⟩
    · go_enter Try.func47, Try.ntmps47
      go_wp2_with fail
      go_loopw [5] (fun i wr => i = .int .i64 0 ∧ wr = w) (fun _ _ => 0)
      case atStart => exact ⟨rfl, rfl⟩
      case round =>
        obtain ⟨rfl, rfl⟩ := hrel
        go_wp2_with fail
        go_ret
        exact ⟨rfl, Below.refl _ _⟩
    · go_enter Try.func47, Try.ntmps47
      go_wp2_with fail
      go_loopw [5] (fun i wr => ∃ k : Nat, k ≤ ns.length ∧ i = .int .i64 k ∧ Below w.heap.size w wr) (fun i _ => ns.length - (intOf i).toNat)
      case atStart => exact ⟨0, by omega, rfl, Below.refl _ _⟩
      case round =>
        obtain ⟨k, hk, rfl, hb⟩ := hrel
        by_cases hlt : k < ns.length
        · have d1 := (hb.cell hg).trans (k1 k hlt)
          have d2 := (hb.cell hh).trans (k2 k hlt)
          generalize ns[k] = u at *
          have hlt' : (k : Int) < ns.length := by omega
          go_wp2_with fail
          refine same_region _ (fun _ _ _ _ _ h => h) _ _ g h ns.length c1 c2 k u hlt wr ⟨d1, d2⟩ ?_
          unfold fr47
          go_wp2_with fail
          go_roundw
          case rel => exact ⟨k + 1, by omega, by simp, below_drew hb⟩
          case measure => simp [intOf]; omega
        · obtain rfl : k = ns.length := by omega
          go_wp2_with fail
          go_ret
          exact ⟨rfl, hb⟩
end Go.Proofs.Ytifkelpgpdgenaa
