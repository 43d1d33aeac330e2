/-
  What is proved here: what Of answers.
  What is proved here: when items of the law and awake answer yes.
  What is proved here: how plain regions with guards are gone through, moves and skipped operations many at once (no function of the program is named).
-/
import Derived.Test.YthcphnifnfnceaaGreatDoorG34
import Derived.Test.YthcphnifnfnceaaGreatDoorG2
import Derived.BigFrame
namespace Go.Proofs.YthcphnifnfnceaaGreatDoor
open Go.RowKit Go.Shelf

def rest31 : Code := ((Code.region 4 #[{ dst := some 15, op := Op.load 27 (Operand.tmp 3), type := 27, pos := "outright.go:17", after := #[], guard := none }, { dst := none, op := Op.store 27 (Operand.tmp 2) (Operand.tmp 15), type := 0, pos := "outright.go:17", after := #[{ on := 0, ground := Ground.data }, { on := 0, ground := Ground.phase }], guard := none }] false).seq Code.ret)
set_option maxRecDepth 100000 in
set_option maxHeartbeats 1000000 in
theorem of_end (R : Ending → World → Prop) (a : Pa) (h1 : a.sv.oneCell' = true) (h2 : a.mv.oneCell' = true) (B2 B3 : Nat) (W : World) (hl : W.heap[B3]? = some (.cells (paC a) 27 (0, 0))) (hz : W.heap[B2]? = some (.cells (paC zeroP) 27 (0, 0))) {v0 v1 v4 v5 v6 v7 v8 v9 v10 v11 v12 v13 v14 v15 : Value}
    (hR : R (.returned (.agg (paC a))) (W.setRow B2 (paC a))) : rest31.wp Tryz.prog (bodyPost Tryz.prog Tryz.f31 R) { tmps := #[v0, v1, .pointer (some ⟨B2, 0, none⟩), .pointer (some ⟨B3, 0, none⟩), v4, v5, v6, v7, v8, v9, v10, v11, v12, v13, v14, v15], defers := [] } W := by
  unfold rest31
  go_wp2_with (first | (refine wpList_load_row rfl 27 _ rfl B3 rfl 27 _ (0, 0) _ hl Tryz.underlying27 rfl (info34 a) ?_) | (refine wpList_store_row rfl 27 _ _ rfl B2 (paC a) rfl rfl 27 _ hz (info34 _) rfl (paC_one _ h1 h2) ?_))
  refine bodyPost_ret (results_cell_row rfl _ _ B2 27 _ (0, 0) _ rfl (setRow_heap _ _ _ _ 27 _ hz) Tryz.underlying27 rfl (info34 a)) rfl ?_
  exact hR
def rest31a : Code := (((Code.region 2 #[{ dst := some 7, op := Op.move (Operand.tmp 0), type := 9, pos := "outright.go:14", after := #[], guard := none }, { dst := some 8, op := Op.call { callee := Callee.builtin Builtin.len, args := #[Operand.tmp 7], argTypes := #[9] }, type := 3, pos := "outright.go:14", after := #[{ on := 0, ground := Ground.data }], guard := none }, { dst := some 9, op := Op.binOp BinOp.gtr 3 (Operand.tmp 8) (Operand.const (Value.int IntKind.i64 0)) 3, type := 4, pos := "outright.go:14", after := #[{ on := 1, ground := Ground.data }], guard := none }] false).seq (Code.cond (Operand.tmp 9) (Code.region 3 #[{ dst := some 10, op := Op.move (Operand.tmp 0), type := 9, pos := "outright.go:15", after := #[], guard := none }, { dst := some 11, op := Op.call { callee := Callee.builtin Builtin.len, args := #[Operand.tmp 10], argTypes := #[9] }, type := 3, pos := "outright.go:15", after := #[{ on := 0, ground := Ground.data }], guard := none }, { dst := some 12, op := Op.build 92 #[(0, Operand.tmp 11)], type := 92, pos := "outright.go:15", after := #[{ on := 1, ground := Ground.data }], guard := none }, { dst := some 13, op := Op.buildSlice 22 1 #[(0, Operand.tmp 12)], type := 22, pos := "outright.go:15", after := #[{ on := 2, ground := Ground.data }], guard := none }, { dst := some 14, op := Op.fieldAddr 27 (Operand.tmp 3) 1, type := 0, pos := "outright.go:15", after := #[{ on := 0, ground := Ground.phase }, { on := 1, ground := Ground.phase }, { on := 2, ground := Ground.phase }, { on := 3, ground := Ground.phase }], guard := none }, { dst := none, op := Op.store 22 (Operand.tmp 14) (Operand.tmp 13), type := 0, pos := "outright.go:15", after := #[{ on := 4, ground := Ground.data }, { on := 3, ground := Ground.data }, { on := 0, ground := Ground.phase }, { on := 1, ground := Ground.phase }, { on := 2, ground := Ground.phase }, { on := 3, ground := Ground.phase }], guard := none }] false) Code.skip)).seq rest31)
def OfEnd (t : ByteArray) (w : World) (e : Ending) (w' : World) : Prop := (∃ sv, e = .returned (.agg (paC (ofP t sv 0))) ∧ PaAt w' (ofP t sv 0)) ∧ Below w.heap.size w w'
set_option maxRecDepth 100000 in
set_option maxHeartbeats 1000000 in
theorem of_mid (t : ByteArray) (ht : 0 < t.size) (w W : World) (B3 : Nat) (hB : Below w.heap.size w W) (hP : PB W B3 (rawP t)) (hz : W.heap[w.heap.size]? = some (.cells (paC zeroP) 27 (0, 0))) (h3 : w.heap.size < B3) {v1 v4 v5 v6 v7 v8 v9 v10 v11 v12 v13 v14 v15 : Value} :
    rest31a.wp Tryz.prog (bodyPost Tryz.prog Tryz.f31 (OfEnd t w)) { tmps := #[.string t, v1, .pointer (some ⟨w.heap.size, 0, none⟩), .pointer (some ⟨B3, 0, none⟩), v4, v5, v6, v7, v8, v9, v10, v11, v12, v13, v14, v15], defers := [] } W := by
  have ht' : (0 : Int) < t.size := by omega
  have hlt := hP.lt
  have hP5 : PB (W.alloc (.cells #[.int .i64 t.size, .int .i64 0, .int .i64 0, .int .i64 0] 92)) B3 (rawP t) := ⟨(Below.heap_alloc _ _ _ hlt).trans hP.row⟩
  have c1 : (W.alloc (.cells #[.int .i64 t.size, .int .i64 0, .int .i64 0, .int .i64 0] 92)).cell? ⟨B3, 1, none⟩ = some (.slice none 0 0) := hP5.c1
  have f1 : (W.alloc (.cells #[.int .i64 t.size, .int .i64 0, .int .i64 0, .int .i64 0] 92)).frozen? ⟨B3, 1, none⟩ = false := Lib.frozen_of_heap hP5.row 1
  have hend : Hid (∀ v0 v1 v4 v5 v6 v7 v8 v9 v10 v11 v12 v13 v14 v15 : Value, rest31.wp Tryz.prog (bodyPost Tryz.prog Tryz.f31 (OfEnd t w)) { tmps := #[v0, v1, .pointer (some ⟨w.heap.size, 0, none⟩), .pointer (some ⟨B3, 0, none⟩), v4, v5, v6, v7, v8, v9, v10, v11, v12, v13, v14, v15], defers := [] } ((W.setCell ⟨B3, 1, none⟩ (.slice (some ⟨W.heap.size, 0, none⟩) 1 1)).alloc (.cells #[.int .i64 t.size, .int .i64 0, .int .i64 0, .int .i64 0] 92))) := by
    intro v0 v1 v4 v5 v6 v7 v8 v9 v10 v11 v12 v13 v14 v15
    have hrec : RecAt 4 spL ((W.setCell ⟨B3, 1, none⟩ (.slice (some ⟨W.heap.size, 0, none⟩) 1 1)).alloc (.cells #[.int .i64 t.size, .int .i64 0, .int .i64 0, .int .i64 0] 92)) (.slice (some ⟨W.heap.size, 0, none⟩) 1 1) [⟨t.size, 0, 0, 0⟩] := by
      have := rec_new spL_len (W.setCell ⟨B3, 1, none⟩ (.slice (some ⟨W.heap.size, 0, none⟩) 1 1)) 92 [⟨t.size, 0, 0, 0⟩]
      rw [World.size_setCell] at this
      exact this
    have hl : ((W.setCell ⟨B3, 1, none⟩ (.slice (some ⟨W.heap.size, 0, none⟩) 1 1)).alloc (.cells #[.int .i64 t.size, .int .i64 0, .int .i64 0, .int .i64 0] 92)).heap[B3]? = some (.cells (paC (ofP t (.slice (some ⟨W.heap.size, 0, none⟩) 1 1) 0)) 27 (0, 0)) := (Below.heap_alloc _ _ _ (by rw [World.size_setCell]; exact hlt)).trans (heap_setCell_same _ _ 1 _ 27 _ hP.row)
    have hz6 : ((W.setCell ⟨B3, 1, none⟩ (.slice (some ⟨W.heap.size, 0, none⟩) 1 1)).alloc (.cells #[.int .i64 t.size, .int .i64 0, .int .i64 0, .int .i64 0] 92)).heap[w.heap.size]? = some (.cells (paC zeroP) 27 (0, 0)) := (Below.heap_alloc _ _ _ (by rw [World.size_setCell]; omega)).trans ((Below.heap_setCell _ _ _ _ (by show w.heap.size ≠ B3; omega)).trans hz)
    have hT6 : Turns (fun k => k = w.heap.size) ((W.setCell ⟨B3, 1, none⟩ (.slice (some ⟨W.heap.size, 0, none⟩) 1 1)).alloc (.cells #[.int .i64 t.size, .int .i64 0, .int .i64 0, .int .i64 0] 92)) (((W.setCell ⟨B3, 1, none⟩ (.slice (some ⟨W.heap.size, 0, none⟩) 1 1)).alloc (.cells #[.int .i64 t.size, .int .i64 0, .int .i64 0, .int .i64 0] 92)).setRow w.heap.size (paC (ofP t (.slice (some ⟨W.heap.size, 0, none⟩) 1 1) 0))) := Turns.setRow (X := fun k => k = w.heap.size) _ rfl _
    have hB6 : Below w.heap.size w ((W.setCell ⟨B3, 1, none⟩ (.slice (some ⟨W.heap.size, 0, none⟩) 1 1)).alloc (.cells #[.int .i64 t.size, .int .i64 0, .int .i64 0, .int .i64 0] 92)) := (hB.setCell (p := ⟨B3, 1, none⟩) (by show w.heap.size ≤ B3; omega) _).alloc (by rw [World.size_setCell]; omega) _
    refine of_end (OfEnd t w) (ofP t (.slice (some ⟨W.heap.size, 0, none⟩) 1 1) 0) rfl rfl w.heap.size B3 _ hl hz6 ?_
    exact ⟨⟨_, rfl, rec_turns hrec hT6 (fun b o n c e => by cases e; omega), ⟨⟨none, 0, rfl, .inl rfl⟩, fun a n c e => by cases e; exact Nat.le_refl _⟩, by simp [ofP]⟩, hB6.trans (hT6.below hB6.size (fun k hk => by omega))⟩
  clear hP5 hz hB hP
  unfold rest31a
  go_wp2_with fail
  exact hend.out _ _ _ _ _ _ _ _ _ _ _ _ _ _
set_option maxRecDepth 100000 in
set_option maxHeartbeats 1000000 in
theorem of_any (t : ByteArray) (ht : 0 < t.size) (w : World) : Calls Tryz.prog 31 #[.string t] w (OfEnd t w) := by
  have hpl : Hid (Calls Tryz.prog 59 #[.int .i64 8] (w.alloc (.cells (paC zeroP) 27)) fun e w' => e = .returned (.agg #[.int .i64 8, .int .i64 12, .int .i64 0, .int .i64 0, .int .i64 0, .int .i64 0, .int .i64 0, .int .i64 0, .int .i64 0, .int .i64 0, .int .i64 1, .int .i64 1, .int .i64 0, .int .i64 0, .int .i64 0, .int .i64 0, .int .i64 0]) ∧ Below (w.alloc (.cells (paC zeroP) 27)).heap.size (w.alloc (.cells (paC zeroP) 27)) w') := plain_any 8 _
  have hend : Hid (∀ w2, Below (w.alloc (.cells (paC zeroP) 27)).heap.size (w.alloc (.cells (paC zeroP) 27)) w2 → ∀ v1 v4 v5 v6 v7 v8 v9 v10 v11 v12 v13 v14 v15 : Value, rest31a.wp Tryz.prog (bodyPost Tryz.prog Tryz.f31 (OfEnd t w)) { tmps := #[.string t, v1, .pointer (some ⟨w.heap.size, 0, none⟩), .pointer (some ⟨w2.heap.size, 0, none⟩), v4, v5, v6, v7, v8, v9, v10, v11, v12, v13, v14, v15], defers := [] } ((w2.alloc (.cells (paC zeroP) 27)).setRow w2.heap.size (paC (rawP t)))) := fun w2 hb2 => by
    intro v1 v4 v5 v6 v7 v8 v9 v10 v11 v12 v13 v14 v15
    have hB1 := (Below.refl w.heap.size w).alloc (Nat.le_refl _) (Obj.cells (paC zeroP) 27)
    have hs1 : (w.alloc (.cells (paC zeroP) 27)).heap.size = w.heap.size + 1 := World.size_alloc _ _
    have h2 : w.heap.size < w2.heap.size := by have := hb2.size; omega
    have hr2 : w2.heap[w.heap.size]? = some (.cells (paC zeroP) 27 (0, 0)) := (hb2.block _ (by rw [hs1]; omega)).trans (PB.new w zeroP).row
    have hT4 : Turns (fun k => k = w2.heap.size) (w2.alloc (.cells (paC zeroP) 27)) ((w2.alloc (.cells (paC zeroP) 27)).setRow w2.heap.size (paC (rawP t))) := Turns.setRow (X := fun k => k = w2.heap.size) _ rfl _
    have hB3 : Below w.heap.size w (w2.alloc (.cells (paC zeroP) 27)) := (hB1.trans (hb2.mono hB1.size)).alloc (by omega) _
    exact of_mid t ht w _ w2.heap.size (hB3.trans (hT4.below hB3.size (fun k hk => by omega))) ⟨setRow_heap _ _ _ _ 27 _ (PB.new w2 zeroP).row⟩ ((hT4.block _ (by simp; omega) (by omega)).trans ((Below.heap_alloc _ _ _ h2).trans hr2)) h2
  have hz : Hid (∀ w2 : World, (w2.alloc (.cells (paC zeroP) 27)).heap[w2.heap.size]? = some (.cells (paC zeroP) 27 (0, 0))) := fun w2 => (PB.new w2 zeroP).row
  dsimp only [paC, zeroP] at hz
  go_enter Tryz.func31, Tryz.ntmps31
  change Code.wp Tryz.prog ((Code.region 0 #[{ dst := some 2, op := Op.alloc 27, type := 0, pos := "outright.go:12", after := #[], guard := none }] false).seq ((Code.region 1 #[{ dst := some 4, op := Op.move (Operand.tmp 0), type := 9, pos := "outright.go:13", after := #[], guard := none }, { dst := some 5, op := Op.call { callee := Callee.value (Operand.func 59), args := #[Operand.const (Value.int IntKind.i64 8)], argTypes := #[3] }, type := 24, pos := "outright.go:13", after := #[], guard := none }, { dst := some 6, op := Op.build 27 #[(0, Operand.tmp 4), (2, Operand.tmp 5)], type := 27, pos := "outright.go:13", after := #[{ on := 0, ground := Ground.data }, { on := 1, ground := Ground.data }], guard := none }, { dst := some 3, op := Op.alloc 27, type := 0, pos := "outright.go:13", after := #[], guard := none }, { dst := none, op := Op.store 27 (Operand.tmp 3) (Operand.tmp 6), type := 0, pos := "outright.go:13", after := #[{ on := 3, ground := Ground.data }, { on := 2, ground := Ground.data }, { on := 1, ground := Ground.chain }, { on := 0, ground := Ground.phase }, { on := 1, ground := Ground.phase }, { on := 2, ground := Ground.phase }, { on := 3, ground := Ground.phase }], guard := none }] false).seq rest31a)) _ _ _
  go_wp2_with (first | (refine wpList_store_row rfl 27 (.tmp 3) (.tmp 6) rfl w2.heap.size (paC (rawP t)) rfl rfl 27 _ (hz.out w2) (info34 _) rfl (paC_one _ rfl rfl) ?_) | (go_at_call 59; refine hpl.out.mono ?_; rintro e w2 ⟨rfl, hb2⟩))
  exact hend.out w2 hb2 _ _ _ _ _ _ _ _ _ _ _ _ _
end Go.Proofs.YthcphnifnfnceaaGreatDoor

namespace Go.Proofs.YthcphnifnfnceaaGreatDoor
open Go.RowKit Go.Shelf

theorem paC_agg (a : Pa) : paV a = .agg (paC a) := rfl
set_option maxRecDepth 100000 in
set_option maxHeartbeats 1000000 in
theorem items32_yes (a : Pa) (u : Value) (w : World) (hA : PaAt w a) (htb : Hy.Tab w) (h : chkI a = 0) (hU : ItsAt w u (itemsOf a)) (hl : (itemsOf a).length ≤ 8193) :
    Calls Tryz.prog 32 #[.agg (paC a), u] w fun e w' => e = .returned (.bool true) ∧ Below w.heap.size w w' := by
  have hB := (Below.refl w.heap.size w).alloc (Nat.le_refl _) (Obj.cells (paC a) 27)
  have hP := PB.new w a
  have hit : Hid (Calls Tryz.prog 9 #[.agg (paC a)] (w.alloc (.cells (paC a) 27)) fun e w' => (∃ v, e = .returned (.tuple #[v, .int .i64 0]) ∧ ItsAt w' v (itemsOf a)) ∧ Below (w.alloc (.cells (paC a) 27)).heap.size (w.alloc (.cells (paC a) 27)) w') := by
    have hs := items_all a _ (hA.below hB (Nat.le_refl _)) (htb.below hB)
    refine hs.mono ?_
    rintro e w' ⟨⟨v, rfl, hv⟩, hb⟩
    rw [h] at hv ⊢
    rcases hv with ⟨h1, _⟩ | ⟨_, h1, _⟩
    · exact absurd rfl h1
    · exact ⟨⟨v, rfl, rec_of_row itL_len rfl h1⟩, hb⟩
  have hsame : Hid (∀ w2 v, ItsAt w2 v (itemsOf a) → Below w.heap.size w w2 → Calls Tryz.prog 11 #[v, u] w2 fun e w' => e = .returned (.bool true) ∧ Below w.heap.size w w') := fun w2 v hv hb2 => by
    refine (sameItems_yes v u (itemsOf a) w2 (by omega) hv (hU.below hb2 (Nat.le_refl _))).mono ?_
    rintro e w' ⟨rfl, hb⟩
    exact ⟨rfl, hb2.trans (hb.mono hb2.size)⟩
  obtain ⟨ua, uc, rfl, -⟩ := hU.ex
  obtain ⟨n, hn⟩ : ∃ n, (itemsOf a).length = n := ⟨_, rfl⟩
  rw [hn] at hsame ⊢
  have hB' : Hid (Below w.heap.size w (w.alloc (.cells (paC a) 27))) := hB
  clear hU hA htb h hB
  generalize hw1 : w.alloc (.cells (paC a) 27) = w1 at *
  go_enter Tryz.func32, Tryz.ntmps32
  go_wp2_with (first | (refine wpList_load_row rfl 27 _ rfl w.heap.size rfl 27 _ (0, 0) _ hP.row Tryz.underlying27 rfl (info34 a) ?_) | (go_at_call 9; refine hit.out.mono ?_; rintro e w2 ⟨⟨v, rfl, hv⟩, hb2⟩; obtain ⟨va, vc, rfl, -⟩ := hv.ex; rw [hn] at hv) | (go_at_call 11; refine (hsame.out _ _ hv (hB'.out.trans (hb2.mono hB'.out.size))).mono ?_; rintro e w3 ⟨rfl, hb3⟩))
  go_ret
  exact ⟨rfl, hb3⟩
theorem tab_stay {w w' : World} (h : Hy.Tab w) (hb : Below w.heap.size w w') : Hy.Tab w' := h.below hb
set_option maxRecDepth 100000 in
set_option maxHeartbeats 1000000 in
theorem awake_yes (w : World) (htb : Hy.Tab w) : Calls Tryz.prog 14 #[] w fun e w' => e = .returned (.bool true) ∧ Below w.heap.size w w' := by
  have h1 : Hid (Calls Tryz.prog 31 #[.string ⟨#[97, 32, 98]⟩] w (OfEnd ⟨#[97, 32, 98]⟩ w)) := of_any _ (by decide) w
  have h2 : Hid (∀ w1, Below w.heap.size w w1 → Calls Tryz.prog 29 #[] w1 fun e w' => (∃ v, e = .returned v ∧ ItsAt w' v twoL) ∧ Below w1.heap.size w1 w') := fun w1 _ => two_any w1
  have h3 : Hid (∀ w1 w2 sv v, Below w.heap.size w w1 → PaAt w1 (ofP ⟨#[97, 32, 98]⟩ sv 0) → Below w1.heap.size w1 w2 → ItsAt w2 v twoL → Calls Tryz.prog 32 #[.agg (paC (ofP ⟨#[97, 32, 98]⟩ sv 0)), v] w2 fun e w' => e = .returned (.bool true) ∧ Below w.heap.size w w') := fun w1 w2 sv v hb1 hp hb2 hv => by
    have hb : Below w.heap.size w w2 := hb1.trans (hb2.mono hb1.size)
    refine (items32_yes _ v w2 (hp.below hb2 (Nat.le_refl _)) (htb.below hb) (ofP_ok1 sv) (by rw [ofP_its1]; exact hv) (by rw [ofP_its1]; decide)).mono ?_
    rintro e w' ⟨rfl, hb3⟩
    exact ⟨rfl, hb.trans (hb3.mono hb.size)⟩
  unfold OfEnd at h1
  go_enter Tryz.func14, Tryz.ntmps14
  go_wp2_with (first | (go_at_call 31; refine h1.out.mono ?_; rintro e w1 ⟨⟨sv, rfl, hp⟩, hb1⟩) | (go_at_call 29; refine (h2.out w1 hb1).mono ?_; rintro e w2 ⟨⟨v, rfl, hv⟩, hb2⟩) | (go_at_call 32; refine (h3.out w1 w2 sv v hb1 hp hb2 hv).mono ?_; rintro e w3 ⟨rfl, hb3⟩))
  go_ret
  exact ⟨rfl, hb3⟩
end Go.Proofs.YthcphnifnfnceaaGreatDoor

namespace Go.Proofs.YthcphnifnfnceaaGreatDoor
open Go.RowKit Go.Shelf

section
variable {P : Program} {ops : Array Oper} {Q : Exit → Act → World → Prop} {w : World}
theorem wl_cons {i : Nat} {oi : Oper} (hi : ops[i]? = some oi) : ops.toList.drop i = oi :: ops.toList.drop (i + 1) := by
  obtain ⟨h, e⟩ := Array.getElem?_eq_some_iff.1 hi
  rw [List.drop_eq_getElem_cons (by simpa using h)]
  simp [e]
theorem take_i (i : Nat) {oi : Oper} {v : Value} {a : Act} (a' : Act) (hi : ops[i]? = some oi) (hw : Region.wanted oi (yielded ops a.tmps) = true) (hy : (execOp a.eval oi).run P w = .ok (.value v) w) (ha : a.put oi.dst v = a')
    (h : wpList P ops Q (ops.toList.drop (i + 1)) a' w) : wpList P ops Q (ops.toList.drop i) a w := by
  rw [wl_cons hi]
  refine BigFrame.wpList_want hw fun K hK => ?_
  unfold Oper.wp
  rw [hy]
  exact hK _ _ (ha ▸ h)
theorem want_i (i : Nat) {oi : Oper} {a : Act} (hi : ops[i]? = some oi) (hw : Region.wanted oi (yielded ops a.tmps) = true)
    (h : ∀ K : Act → World → Prop, (∀ a' w', wpList P ops Q (ops.toList.drop (i + 1)) a' w' → K a' w') → oi.wp P a w K Q) : wpList P ops Q (ops.toList.drop i) a w := by
  rw [wl_cons hi]
  exact BigFrame.wpList_want hw h
theorem cast_l {l : List Oper} {a : Act} (a' : Act) (ha : a = a') (h : wpList P ops Q l a' w) : wpList P ops Q l a w := ha ▸ h
/-- What an operation that only moves values answers. -/
def pureVal (a : Act) (o : Oper) : Option Value :=
  match o.op with
  | .move x => some (a.eval x)
  | .assign x => some (a.eval x)
  | .pick c x y => match a.eval c with
    | .bool b => some (if b then a.eval x else a.eval y)
    | _ => none
  | _ => none
theorem pureVal_run {a : Act} {o : Oper} {v : Value} (h : pureVal a o = some v) : (execOp a.eval o).run P w = .ok (.value v) w := by
  unfold pureVal at h
  unfold execOp
  split at h
  · rename_i x e
    cases h
    rw [e]; rfl
  · rename_i x e
    cases h
    rw [e]; rfl
  · rename_i c x y e
    rw [e]
    split at h
    · rename_i b e2
      cases h
      simp only [e2]
      rfl
    · cases h
  · cases h
/-- The frame behind operations that are skipped or only move values. -/
def pureRun (ops : Array Oper) : List Oper → Act → Option Act
  | [], a => some a
  | o :: l, a => if Region.wanted o (yielded ops a.tmps) then (match pureVal a o with
    | some v => pureRun ops l (a.put o.dst v)
    | none => none) else pureRun ops l (a.put o.dst undef)
theorem pures_l {l2 : List Oper} {a' : Act} (hq : wpList P ops Q l2 a' w) : ∀ (l1 : List Oper) (a : Act), pureRun ops l1 a = some a' → wpList P ops Q (l1 ++ l2) a w
  | [], a, h => by cases h; exact hq
  | o :: l, a, h => by
    unfold pureRun at h
    show wpList P ops Q (o :: (l ++ l2)) a w
    split at h
    · rename_i hw
      split at h
      · rename_i v hv
        refine BigFrame.wpList_want hw fun K hK => ?_
        unfold Oper.wp
        rw [pureVal_run hv]
        exact hK _ _ (pures_l hq l _ h)
      · cases h
    · rename_i hw
      exact wpList_skip (by simpa using hw) (pures_l hq l _ h)
theorem pures_i (i n : Nat) {a : Act} (a' : Act) (h : pureRun ops ((ops.toList.drop i).take n) a = some a') (hq : wpList P ops Q (ops.toList.drop (i + n)) a' w) : wpList P ops Q (ops.toList.drop i) a w := by
  have e : ops.toList.drop i = (ops.toList.drop i).take n ++ ops.toList.drop (i + n) := by
    rw [← List.drop_drop, List.take_append_drop]
  rw [e]
  exact pures_l hq _ _ h
theorem end_i (i : Nat) {a : Act} (h : ops.size = i) (hq : Q .normal a w) : wpList P ops Q (ops.toList.drop i) a w := by
  have e : ops.toList.drop i = [] := List.drop_of_length_le (by simp [h])
  rw [e]
  exact wpList_nil hq
end
end Go.Proofs.YthcphnifnfnceaaGreatDoor
