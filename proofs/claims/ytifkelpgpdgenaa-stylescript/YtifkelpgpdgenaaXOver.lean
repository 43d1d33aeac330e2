/-
  What is proved here: what the document's own Names answers (for StyleScript).
  What is proved here: what SameTexts answers of names that are the same (for StyleScript).
  What is proved here: what OverTexts does to names of which all cells are texts (for StyleScript).
-/
import Derived.Test.YtifkelpgpdgenaaXStyRow
import Derived.Test.YtifkelpgpdgenaaXPut
namespace Go.Proofs.Ytifkelpgpdgenaa
open Go.RowKit Go.Shelf

variable {X : Nat → Prop}

/-- Names in memory. -/
structure StrsAt (W : World) (v : Value) (ns : List Str) : Prop where
  ex : ∃ a cap, v = .slice a ns.length cap ∧ (ns = [] ∨ ∃ g, a = some ⟨g, 0, none⟩ ∧ g < W.heap.size ∧ ∀ (i : Nat) (h : i < ns.length), W.cell? ⟨g, i, none⟩ = some (.string ns[i]))
theorem strs_of_row {W : World} {base : Nat} {v : Value} {ns : List Str} (h : W.ownsRow base 9 1 v ns.length (ns.map Value.string)) : StrsAt W v ns := by
  refine ⟨?_⟩
  rcases h.2 with ⟨rfl, hn⟩ | ⟨g, cap, cur, rfl, hb', hg, r⟩
  · have : ns = [] := List.eq_nil_of_length_eq_zero hn
    subst this
    exact ⟨none, 0, rfl, .inl rfl⟩
  · refine ⟨_, cap, rfl, .inr ⟨g, rfl, (Array.getElem?_eq_some_iff.1 hg).1, fun i hi => ?_⟩⟩
    have hc := h.cells (g := g) rfl i (.string ns[i]) (by simp [hi])
    rw [addr_add0] at hc
    exact hc
theorem info9 : (Try.prog.info? 9).map (fun i => (i.zero, i.size, i.bytes)) = some (some (.string ⟨#[]⟩), 1, 16) := by kernel_rfl

set_option maxRecDepth 100000 in
set_option maxHeartbeats 4000000 in
theorem refNames_any (g : Nat) (T : Stys) (hT : T.length ≤ 64) (w : World) (h : RefAt X w g T) :
    Calls Try.prog 48 #[.pointer (some ⟨g, 0, none⟩)] w fun e w' => ∃ v, e = .returned v ∧ StrsAt w' v (T.map (·.1)) ∧ Below w.heap.size w w' := by
  obtain ⟨i0, hi, hz0, hz1, hz2⟩ := info_parts info9
  obtain ⟨v, hv, hS⟩ := h.ex
  have hg := h.lt
  obtain ⟨a, cap, rfl, h2⟩ := hS.ex
  clear hS h
  go_enter Try.func48, Try.ntmps48
  go_wp2_with fail
  go_loopw [3, 4] (fun o i wr => ∃ (k : Nat) (a1 : Option Addr) (c1 : Nat), k ≤ T.length ∧ o = .slice a1 k c1 ∧ i = .int .i64 k ∧ Below w.heap.size w wr ∧ Hid (wr.ownsRow w.heap.size 9 1 (.slice a1 k c1) k ((T.take k).map fun x => Value.string x.1))) (fun _ i _ => T.length - (intOf i).toNat)
  case atStart => exact ⟨0, none, 0, by omega, rfl, rfl, Below.refl _ _, World.ownsRow_nil w _ 9 1⟩
  case round =>
    obtain ⟨k, a1, c1, hk, rfl, rfl, hb, hrow⟩ := hrel
    have dv := (hb.cell hg).trans hv
    by_cases hlt : k < T.length
    · rcases h2 with h2 | ⟨b, o, rfl, hbl, _, hc⟩
      · rw [h2] at hlt; simp at hlt
      · obtain ⟨c0, _, _⟩ := hc k hlt
        replace c0 := (hb.cell hbl).trans c0
        clear hc
        have hmore : Hid ((T.take k).map (fun x => Value.string x.1) ++ [.string T[k].1] = (T.take (k + 1)).map (fun x => Value.string x.1)) := by
          rw [List.take_succ_eq_append_getElem hlt, List.map_append]; exact rfl
        generalize T[k].1 = u at *
        have hA := (Below.refl wr.heap.size wr).alloc (Nat.le_refl _) (.cells #[.string u] 9)
        have hrow' : Hid _ := ownsRow_below hrow.out hA
        have hx := heap_new wr (.cells #[.string u] 9)
        have hsrc : Hid (Srcs (wr.alloc (.cells #[.string u] 9)) 1 (.slice (some ⟨wr.heap.size, 0, none⟩) 1 1) 1 [.string u]) := ⟨rfl, fun y hy => (by rw [List.mem_singleton.1 hy]; rfl), .inr ⟨_, _, rfl, fun j y hj => by
          cases j with
          | zero => simp at hj; subst hj; rw [addr_add0, Lib.cell_of_heap hx]; rfl
          | succ j => simp at hj⟩⟩
        have hs0 := hb.size
        clear hx
        go_wp2_with (at_builtin; refine wpList_append_any _ rfl _ _ 65 rfl w.heap.size 9 i0 _ 1 16 Try.underlying65 hi hz0 hz1 hz2 rfl (by decide) _ k _ rfl hrow'.out 1 [.string u] _ rfl hsrc.out (by unfold maxLen; omega) (by omega) (by simp; omega) ?_; intro v' w2 hown hgrow; obtain ⟨a2, cp2, rfl⟩ := slice_form hown)
        have hB2 : Below w.heap.size w w2 := below_grown (hb.trans (hA.mono hb.size)) hrow'.out (Nat.le_refl _) (Nat.le_refl _) hgrow
        rw [hmore.out] at hown
        replace hown : Hid _ := hown
        clear hgrow hrow' hrow hsrc hmore
        try go_wp2_with fail
        go_roundw
        case rel => exact ⟨k + 1, a2, cp2, by omega, rfl, by simp, hB2, hown.out⟩
        case measure => simp [intOf]; omega
    · obtain rfl : k = T.length := by omega
      have hfin : Hid (StrsAt wr (.slice a1 T.length c1) (T.map (·.1))) := by
        have h1 := hrow.out
        rw [List.take_length] at h1
        have := strs_of_row (W := wr) (v := .slice a1 T.length c1) (ns := T.map (·.1)) (base := w.heap.size) (by rw [List.length_map, List.map_map]; exact h1)
        exact this
      clear hrow
      go_wp2_with fail
      go_ret
      exact ⟨_, rfl, hfin.out, hb⟩
end Go.Proofs.Ytifkelpgpdgenaa

namespace Go.Proofs.Ytifkelpgpdgenaa
open Go.RowKit Go.Shelf
open Put
def fr47 (v0 v1 v2 v3 v4 v5 v6 v7 v8 v9 v10 v11 v12 v13 v14 v15 v16 v17 v18 v19 v20 v21 v22 v23 v24 v25 : Value) : Act := { tmps := #[v0, v1, v2, v3, v4, v5, v6, v7, v8, v9, v10, v11, v12, v13, v14, v15, v16, v17, v18, v19, v20, v21, v22, v23, v24, v25], defers := [] }
def ops47 (ps : String) : Array Oper := #[{ dst := some 17, op := Op.move (Operand.tmp 0), type := 65, pos := ps, after := #[], guard := none }, { dst := some 18, op := Op.move (Operand.tmp 5), type := 3, pos := ps, after := #[], guard := none }, { dst := some 19, op := Op.indexAddr 65 (Operand.tmp 17) (Operand.tmp 18), type := 0, pos := ps, after := #[{ on := 0, ground := Ground.data }, { on := 1, ground := Ground.data }], guard := none }, { dst := some 20, op := Op.load 9 (Operand.tmp 19), type := 9, pos := ps, after := #[{ on := 2, ground := Ground.data }], guard := none }, { dst := some 21, op := Op.move (Operand.tmp 1), type := 65, pos := ps, after := #[], guard := none }, { dst := some 22, op := Op.move (Operand.tmp 5), type := 3, pos := ps, after := #[], guard := none }, { dst := some 23, op := Op.indexAddr 65 (Operand.tmp 21) (Operand.tmp 22), type := 0, pos := ps, after := #[{ on := 4, ground := Ground.data }, { on := 5, ground := Ground.data }], guard := none }, { dst := some 24, op := Op.load 9 (Operand.tmp 23), type := 9, pos := ps, after := #[{ on := 6, ground := Ground.data }], guard := none }, { dst := some 25, op := Op.binOp BinOp.neq 9 (Operand.tmp 20) (Operand.tmp 24) 9, type := 4, pos := ps, after := #[{ on := 3, ground := Ground.data }, { on := 7, ground := Ground.data }], guard := none }]

set_option maxRecDepth 100000 in
set_option maxHeartbeats 4000000 in
theorem same_region (Q : Exit → Act → World → Prop) (hQ : ∀ c x (n : Nat) v w, Q (.panic c) (x.put (some n) v) w → Q (.panic c) x w) (id : Nat) (ps : String) {v2 v3 v4 v6 v7 v8 v9 v10 v11 v12 v13 v14 v15 v16 v17 v18 v19 v20 v21 v22 v23 v24 v25 : Value}
    (g h n c1 c2 k : Nat) (u : Str) (hik : k < n) (w0 : World) (hS0 : w0.cell? ⟨g, k, none⟩ = some (.string u) ∧ w0.cell? ⟨h, k, none⟩ = some (.string u))
    (hq : Q .normal (fr47 (.slice (some ⟨g, 0, none⟩) n c1) (.slice (some ⟨h, 0, none⟩) n c2) v2 v3 v4 (.int .i64 k) v6 v7 v8 v9 v10 v11 v12 v13 v14 v15 v16 (.slice (some ⟨g, 0, none⟩) n c1) (.int .i64 k) (.pointer (some ⟨g, k, none⟩)) (.string u) (.slice (some ⟨h, 0, none⟩) n c2) (.int .i64 k) (.pointer (some ⟨h, k, none⟩)) (.string u) (.bool false)) w0.drew) :
    (Code.region id (ops47 ps) true).wp Try.prog Q (fr47 (.slice (some ⟨g, 0, none⟩) n c1) (.slice (some ⟨h, 0, none⟩) n c2) v2 v3 v4 (.int .i64 k) v6 v7 v8 v9 v10 v11 v12 v13 v14 v15 v16 v17 v18 v19 v20 v21 v22 v23 v24 v25) w0 := by
  have hik1 : (k : Int) < n := by omega
  have hik0 : ¬ (k : Int) < 0 := by omega
  refine wp_region_held (S := fun w' => w'.cell? ⟨g, k, none⟩ = some (.string u) ∧ w'.cell? ⟨h, k, none⟩ = some (.string u)) (by kernel_rfl) ?_
  change wpAnyH _ _ _ _ _ 9 _ _ (World.drew w0)
  have hS : w0.drew.cell? ⟨g, k, none⟩ = some (.string u) ∧ w0.drew.cell? ⟨h, k, none⟩ = some (.string u) := hS0
  generalize w0.drew = W at *
  refine take_h (i := 0) (oi := { dst := some 17, op := Op.move (Operand.tmp 0), type := 65, pos := ps, after := #[], guard := none }) (fuel := 8) (v := (.slice (some ⟨g, 0, none⟩) n c1)) (fr47 (.slice (some ⟨g, 0, none⟩) n c1) (.slice (some ⟨h, 0, none⟩) n c2) v2 v3 v4 (.int .i64 k) v6 v7 v8 v9 v10 v11 v12 v13 v14 v15 v16 (.slice (some ⟨g, 0, none⟩) n c1) v18 v19 v20 v21 v22 v23 v24 v25) (by kernel_rfl) (by kernel_rfl) (by kernel_rfl) (by kernel_rfl) (fun c x w => hQ c x _ _ w) (by kernel_rfl) (fun w _ => by kernel_rfl) (by kernel_rfl) hS ?_
  refine take_h (i := 1) (oi := { dst := some 18, op := Op.move (Operand.tmp 5), type := 3, pos := ps, after := #[], guard := none }) (fuel := 7) (v := (.int .i64 k)) (fr47 (.slice (some ⟨g, 0, none⟩) n c1) (.slice (some ⟨h, 0, none⟩) n c2) v2 v3 v4 (.int .i64 k) v6 v7 v8 v9 v10 v11 v12 v13 v14 v15 v16 (.slice (some ⟨g, 0, none⟩) n c1) (.int .i64 k) v19 v20 v21 v22 v23 v24 v25) (by kernel_rfl) (by kernel_rfl) (by kernel_rfl) (by kernel_rfl) (fun c x w => hQ c x _ _ w) (by kernel_rfl) (fun w _ => by kernel_rfl) (by kernel_rfl) hS ?_
  refine take_h (i := 2) (oi := { dst := some 19, op := Op.indexAddr 65 (Operand.tmp 17) (Operand.tmp 18), type := 0, pos := ps, after := #[{ on := 0, ground := Ground.data }, { on := 1, ground := Ground.data }], guard := none }) (fuel := 6) (v := (.pointer (some ⟨g, k, none⟩))) (fr47 (.slice (some ⟨g, 0, none⟩) n c1) (.slice (some ⟨h, 0, none⟩) n c2) v2 v3 v4 (.int .i64 k) v6 v7 v8 v9 v10 v11 v12 v13 v14 v15 v16 (.slice (some ⟨g, 0, none⟩) n c1) (.int .i64 k) (.pointer (some ⟨g, k, none⟩)) v20 v21 v22 v23 v24 v25) (by kernel_rfl) (by kernel_rfl) (by kernel_rfl) (by kernel_rfl) (fun c x w => hQ c x _ _ w) (by kernel_rfl) (fun w hS => by unfold fr47; go_simp) (by kernel_rfl) hS ?_
  refine take_h (i := 3) (oi := { dst := some 20, op := Op.load 9 (Operand.tmp 19), type := 9, pos := ps, after := #[{ on := 2, ground := Ground.data }], guard := none }) (fuel := 5) (v := (.string u)) (fr47 (.slice (some ⟨g, 0, none⟩) n c1) (.slice (some ⟨h, 0, none⟩) n c2) v2 v3 v4 (.int .i64 k) v6 v7 v8 v9 v10 v11 v12 v13 v14 v15 v16 (.slice (some ⟨g, 0, none⟩) n c1) (.int .i64 k) (.pointer (some ⟨g, k, none⟩)) (.string u) v21 v22 v23 v24 v25) (by kernel_rfl) (by kernel_rfl) (by kernel_rfl) (by kernel_rfl) (fun c x w => hQ c x _ _ w) (by kernel_rfl) (fun w hS => by have e0 := hS.1; have e1 := hS.2; unfold fr47; go_simp) (by kernel_rfl) hS ?_
  refine take_h (i := 4) (oi := { dst := some 21, op := Op.move (Operand.tmp 1), type := 65, pos := ps, after := #[], guard := none }) (fuel := 4) (v := (.slice (some ⟨h, 0, none⟩) n c2)) (fr47 (.slice (some ⟨g, 0, none⟩) n c1) (.slice (some ⟨h, 0, none⟩) n c2) v2 v3 v4 (.int .i64 k) v6 v7 v8 v9 v10 v11 v12 v13 v14 v15 v16 (.slice (some ⟨g, 0, none⟩) n c1) (.int .i64 k) (.pointer (some ⟨g, k, none⟩)) (.string u) (.slice (some ⟨h, 0, none⟩) n c2) v22 v23 v24 v25) (by kernel_rfl) (by kernel_rfl) (by kernel_rfl) (by kernel_rfl) (fun c x w => hQ c x _ _ w) (by kernel_rfl) (fun w _ => by kernel_rfl) (by kernel_rfl) hS ?_
  refine take_h (i := 5) (oi := { dst := some 22, op := Op.move (Operand.tmp 5), type := 3, pos := ps, after := #[], guard := none }) (fuel := 3) (v := (.int .i64 k)) (fr47 (.slice (some ⟨g, 0, none⟩) n c1) (.slice (some ⟨h, 0, none⟩) n c2) v2 v3 v4 (.int .i64 k) v6 v7 v8 v9 v10 v11 v12 v13 v14 v15 v16 (.slice (some ⟨g, 0, none⟩) n c1) (.int .i64 k) (.pointer (some ⟨g, k, none⟩)) (.string u) (.slice (some ⟨h, 0, none⟩) n c2) (.int .i64 k) v23 v24 v25) (by kernel_rfl) (by kernel_rfl) (by kernel_rfl) (by kernel_rfl) (fun c x w => hQ c x _ _ w) (by kernel_rfl) (fun w _ => by kernel_rfl) (by kernel_rfl) hS ?_
  refine take_h (i := 6) (oi := { dst := some 23, op := Op.indexAddr 65 (Operand.tmp 21) (Operand.tmp 22), type := 0, pos := ps, after := #[{ on := 4, ground := Ground.data }, { on := 5, ground := Ground.data }], guard := none }) (fuel := 2) (v := (.pointer (some ⟨h, k, none⟩))) (fr47 (.slice (some ⟨g, 0, none⟩) n c1) (.slice (some ⟨h, 0, none⟩) n c2) v2 v3 v4 (.int .i64 k) v6 v7 v8 v9 v10 v11 v12 v13 v14 v15 v16 (.slice (some ⟨g, 0, none⟩) n c1) (.int .i64 k) (.pointer (some ⟨g, k, none⟩)) (.string u) (.slice (some ⟨h, 0, none⟩) n c2) (.int .i64 k) (.pointer (some ⟨h, k, none⟩)) v24 v25) (by kernel_rfl) (by kernel_rfl) (by kernel_rfl) (by kernel_rfl) (fun c x w => hQ c x _ _ w) (by kernel_rfl) (fun w hS => by unfold fr47; go_simp) (by kernel_rfl) hS ?_
  refine take_h (i := 7) (oi := { dst := some 24, op := Op.load 9 (Operand.tmp 23), type := 9, pos := ps, after := #[{ on := 6, ground := Ground.data }], guard := none }) (fuel := 1) (v := (.string u)) (fr47 (.slice (some ⟨g, 0, none⟩) n c1) (.slice (some ⟨h, 0, none⟩) n c2) v2 v3 v4 (.int .i64 k) v6 v7 v8 v9 v10 v11 v12 v13 v14 v15 v16 (.slice (some ⟨g, 0, none⟩) n c1) (.int .i64 k) (.pointer (some ⟨g, k, none⟩)) (.string u) (.slice (some ⟨h, 0, none⟩) n c2) (.int .i64 k) (.pointer (some ⟨h, k, none⟩)) (.string u) v25) (by kernel_rfl) (by kernel_rfl) (by kernel_rfl) (by kernel_rfl) (fun c x w => hQ c x _ _ w) (by kernel_rfl) (fun w hS => by have e0 := hS.1; have e1 := hS.2; unfold fr47; go_simp) (by kernel_rfl) hS ?_
  refine take_h (i := 8) (oi := { dst := some 25, op := Op.binOp BinOp.neq 9 (Operand.tmp 20) (Operand.tmp 24) 9, type := 4, pos := ps, after := #[{ on := 3, ground := Ground.data }, { on := 7, ground := Ground.data }], guard := none }) (fuel := 0) (v := (.bool false)) (fr47 (.slice (some ⟨g, 0, none⟩) n c1) (.slice (some ⟨h, 0, none⟩) n c2) v2 v3 v4 (.int .i64 k) v6 v7 v8 v9 v10 v11 v12 v13 v14 v15 v16 (.slice (some ⟨g, 0, none⟩) n c1) (.int .i64 k) (.pointer (some ⟨g, k, none⟩)) (.string u) (.slice (some ⟨h, 0, none⟩) n c2) (.int .i64 k) (.pointer (some ⟨h, k, none⟩)) (.string u) (.bool false)) (by kernel_rfl) (by kernel_rfl) (by kernel_rfl) (by kernel_rfl) (fun c x w => hQ c x _ _ w) (by kernel_rfl) (fun w hS => by unfold fr47; go_simp) (by kernel_rfl) hS ?_
  exact wpAnyH_done (by kernel_rfl) hq _

set_option maxRecDepth 100000 in
set_option maxHeartbeats 2000000 in
theorem sameTexts_any (v1 v2 : Value) (ns : List Str) (hf : ns.length ≤ 9223372036854775807) (w : World) (h1 : StrsAt w v1 ns) (h2 : StrsAt w v2 ns) :
    Calls Try.prog 47 #[v1, v2] w fun e w' => e = .returned (.bool true) ∧ Below w.heap.size w w' := by
  obtain ⟨a1, c1, rfl, k1⟩ := h1.ex
  obtain ⟨a2, c2, rfl, k2⟩ := h2.ex
  clear h1 h2
  rcases k1 with rfl | ⟨g, rfl, hg, k1⟩
  · go_enter Try.func47, Try.ntmps47
    go_wp2_with fail
    go_loopw [5] (fun i wr => i = .int .i64 0 ∧ wr = w) (fun _ _ => 0)
    case atStart => exact ⟨rfl, rfl⟩
    case round =>
      obtain ⟨rfl, rfl⟩ := hrel
      go_wp2_with fail
      go_ret
      exact ⟨rfl, Below.refl _ _⟩
  · rcases k2 with rfl | ⟨h, rfl, hh, k2⟩
    · go_enter Try.func47, Try.ntmps47
      go_wp2_with fail
      go_loopw [5] (fun i wr => i = .int .i64 0 ∧ wr = w) (fun _ _ => 0)
      case atStart => exact ⟨rfl, rfl⟩
      case round =>
        obtain ⟨rfl, rfl⟩ := hrel
        go_wp2_with fail
        go_ret
        exact ⟨rfl, Below.refl _ _⟩
    · go_enter Try.func47, Try.ntmps47
      go_wp2_with fail
      go_loopw [5] (fun i wr => ∃ k : Nat, k ≤ ns.length ∧ i = .int .i64 k ∧ Below w.heap.size w wr) (fun i _ => ns.length - (intOf i).toNat)
      case atStart => exact ⟨0, by omega, rfl, Below.refl _ _⟩
      case round =>
        obtain ⟨k, hk, rfl, hb⟩ := hrel
        by_cases hlt : k < ns.length
        · have d1 := (hb.cell hg).trans (k1 k hlt)
          have d2 := (hb.cell hh).trans (k2 k hlt)
          generalize ns[k] = u at *
          have hlt' : (k : Int) < ns.length := by omega
          go_wp2_with fail
          refine same_region _ (fun _ _ _ _ _ h => h) _ _ g h ns.length c1 c2 k u hlt wr ⟨d1, d2⟩ ?_
          unfold fr47
          go_wp2_with fail
          go_roundw
          case rel => exact ⟨k + 1, by omega, by simp, below_drew hb⟩
          case measure => simp [intOf]; omega
        · obtain rfl : k = ns.length := by omega
          go_wp2_with fail
          go_ret
          exact ⟨rfl, hb⟩
end Go.Proofs.Ytifkelpgpdgenaa

namespace Go.Proofs.Ytifkelpgpdgenaa
open Go.RowKit Go.Shelf

/-- A list of texts, all its cells to the last of its capacity, in a block of its own. -/
def AllStrs (W : World) (base m : Nat) (v : Value) : Prop :=
  ∃ a n cap, v = .slice a n cap ∧ cap ≤ maxLen ∧ n ≤ cap ∧ (cap = 0 ∨ ∃ g, a = some ⟨g, 0, none⟩ ∧ base ≤ g ∧ ∃ cur : Array Value, W.heap[g]? = some (.cells cur 9 (0, 0)) ∧ cur.size = cap ∧ ∀ (i : Nat) (_ : i < cap), ∃ s : Str, cur[i]? = some (.string s) ∧ s.size ≤ m)

set_option maxRecDepth 100000 in
set_option maxHeartbeats 4000000 in
theorem over_any (v : Value) (base m : Nat) (hm : m < 1000) (w : World) (hbase : base ≤ w.heap.size) (h : AllStrs w base m v) :
    Calls Try.prog 49 #[v] w fun e w' => e = .returned (.tuple #[]) ∧ Below base w w' := by
  obtain ⟨a, n, cap, rfl, hmax, hn, h2⟩ := h
  unfold maxLen at hmax
  rcases h2 with rfl | ⟨g, rfl, hbg, cur, hcur, hsz, hall⟩
  · obtain rfl : n = 0 := by omega
    go_enter Try.func49, Try.ntmps49
    go_wp2_with fail
    go_loopw [3] (fun i wr => i = .int .i64 0 ∧ wr = w) (fun _ _ => 0)
    case atStart => exact ⟨rfl, rfl⟩
    case round =>
      obtain ⟨rfl, rfl⟩ := hrel
      go_wp2_with fail
      go_returns
      exact ⟨rfl, Below.refl _ _⟩
  · go_enter Try.func49, Try.ntmps49
    go_wp2_with fail
    go_loopw [3] (fun i wr => ∃ (k : Nat) (cur2 : Array Value), k ≤ cap ∧ i = .int .i64 k ∧ Below base w wr ∧ Hid (wr.heap[g]? = some (.cells cur2 9 (0, 0)) ∧ cur2.size = cap ∧ ∀ (j : Nat) (_ : j < cap), k ≤ j → ∃ s : Str, cur2[j]? = some (.string s) ∧ s.size ≤ m)) (fun i _ => cap - (intOf i).toNat)
    case atStart => exact ⟨0, cur, by omega, rfl, Below.refl _ _, hcur, hsz, fun j hj _ => hall j hj⟩
    case round =>
      obtain ⟨k, cur2, hk, rfl, hb, hH⟩ := hrel
      by_cases hlt : k < cap
      · obtain ⟨hc2, hs2, ha2⟩ := hH.out
        obtain ⟨s, hs, hsm⟩ := ha2 k hlt (Nat.le_refl _)
        have c0 : wr.cell? ⟨g, k, none⟩ = some (.string s) := by rw [Lib.cell_of_heap hc2]; exact hs
        have f0 := Lib.frozen_of_heap hc2 k
        have hlt' : (k : Int) < cap := by omega
        have hh2 := heap_setCell_same wr g k cur2 9 (.string (s ++ ⟨#[33]⟩)) hc2
        have hb2 : Below base w (wr.setCell ⟨g, k, none⟩ (.string (s ++ ⟨#[33]⟩))) := hb.setCell (p := ⟨g, k, none⟩) hbg _
        have hnext : Hid ((wr.setCell ⟨g, k, none⟩ (.string (s ++ ⟨#[33]⟩))).heap[g]? = some (.cells (cur2.setIfInBounds k (.string (s ++ ⟨#[33]⟩))) 9 (0, 0)) ∧ (cur2.setIfInBounds k (.string (s ++ ⟨#[33]⟩))).size = cap ∧ ∀ (j : Nat) (_ : j < cap), k + 1 ≤ j → ∃ s' : Str, (cur2.setIfInBounds k (.string (s ++ ⟨#[33]⟩)))[j]? = some (.string s') ∧ s'.size ≤ m) :=
          ⟨hh2, by simpa using hs2, fun j hj hkj => by
            obtain ⟨s', h1, h2⟩ := ha2 j hj (by omega)
            exact ⟨s', by rw [Array.getElem?_setIfInBounds_ne (by omega)]; exact h1, h2⟩⟩
        clear hH ha2 hs hs2 hc2 hh2
        go_wp2_with fail
        go_roundw
        case rel => exact ⟨k + 1, _, by omega, by simp, hb2, hnext.out⟩
        case measure => simp [intOf]; omega
      · obtain rfl : k = cap := by omega
        clear hH
        go_wp2_with fail
        go_returns
        exact ⟨rfl, hb⟩
end Go.Proofs.Ytifkelpgpdgenaa
