/-
  What is proved here: what makes of style answers.
-/
import Derived.Test.YtifkelpgpdgenaaXDefine
import Derived.Test.YtifkelpgpdgenaaPropsOps
import Derived.Test.YtifkelpgpdgenaaWalkH
namespace Go.Proofs.Ytifkelpgpdgenaa
open Go.RowKit Go.Shelf

/-- What a style makes of properties. -/
inductive Makes (S : Sh) (l : List Int) : Str → List Int → Prop
  | top : Makes S l e0 l
  | style {s p : Str} {L : List (Int × Int)} {m : List Int} : S s = some (p, L) → s ≠ e0 → Makes S l p m → Makes S l s (applyL m L)
theorem Makes.length {S : Sh} {l m : List Int} {s : Str} (h : Makes S l s m) (hl : l.length = 17) : m.length = 17 := by
  induction h with
  | top => exact hl
  | style _ _ _ ih => rw [applyL_length]; exact ih
theorem Makes.uniq {S : Sh} {l m m' : List Int} {s : Str} (h : Makes S l s m) (h' : Makes S l s m') : m = m' := by
  induction h generalizing m' with
  | top => cases h' with
    | top => rfl
    | style _ h0 => exact absurd rfl h0
  | style h1 h0 _ ih => cases h' with
    | top => exact absurd rfl h0
    | style h2 _ h3 => rw [h1] at h2; cases h2; rw [ih h3]
theorem refuseL_all {L : List (Int × Int)} (h : refuseL L = 0) : ∀ q ∈ L, mayS q.1 q.2 = true := by
  unfold refuseL at h
  split at h
  · cases h
  · split at h
    · rename_i h2; exact fun q hq => List.all_eq_true.1 h2 q hq
    · cases h
theorem refuseL_allP {L : List (Int × Int)} (h : refuseL L = 0) : allP L := fun q hq => mayS_isP (refuseL_all h q hq)

theorem o_loadP {ρ : Operand → Value} {w : World} {ps : String} {A : Array Edge} {G : Option (Nat × Bool)} {d : Option Nat} {i : Nat} {B : Nat} {l : List Int} (hP : PB w B 23 l) (h : ρ (.tmp i) = .pointer (some ⟨B, 0, none⟩)) : (execOp ρ { dst := d, op := Op.load 23 (Operand.tmp i), type := 23, pos := ps, after := A, guard := G }).run Try.prog w = .ok (.value (.agg (prC l))) w := o_load23 hP h

def fr50 (v0 v1 v2 v3 v4 v5 v6 v7 v8 v9 v10 v11 v12 v13 v14 v15 v16 v17 v18 v19 v20 v21 v22 v23 v24 : Value) : Act := { tmps := #[v0, v1, v2, v3, v4, v5, v6, v7, v8, v9, v10, v11, v12, v13, v14, v15, v16, v17, v18, v19, v20, v21, v22, v23, v24], defers := [] }

def ops50 (ps : String) : Array Oper := #[{ dst := some 17, op := Op.move (Operand.tmp 0), type := 45, pos := ps, after := #[], guard := none }, { dst := some 18, op := Op.fieldAddr 82 (Operand.tmp 7) 0, type := 0, pos := ps, after := #[], guard := none }, { dst := some 19, op := Op.load 9 (Operand.tmp 18), type := 9, pos := ps, after := #[{ on := 1, ground := Ground.data }], guard := none }, { dst := some 20, op := Op.load 23 (Operand.tmp 5), type := 23, pos := ps, after := #[], guard := none }, { dst := some 21, op := Op.call { callee := Callee.value (Operand.func 50), args := #[Operand.tmp 17, Operand.tmp 19, Operand.tmp 20], argTypes := #[45, 9, 23] }, type := 23, pos := ps, after := #[{ on := 0, ground := Ground.data }, { on := 2, ground := Ground.data }, { on := 3, ground := Ground.data }], guard := none }, { dst := some 22, op := Op.fieldAddr 82 (Operand.tmp 7) 1, type := 0, pos := ps, after := #[], guard := none }, { dst := some 23, op := Op.load 44 (Operand.tmp 22), type := 44, pos := ps, after := #[{ on := 5, ground := Ground.data }], guard := none }, { dst := some 24, op := Op.call { callee := Callee.value (Operand.func 35), args := #[Operand.tmp 21, Operand.tmp 23], argTypes := #[23, 44] }, type := 23, pos := ps, after := #[{ on := 4, ground := Ground.data }, { on := 6, ground := Ground.data }, { on := 4, ground := Ground.chain }], guard := none }, { dst := none, op := Op.store 23 (Operand.tmp 6) (Operand.tmp 24), type := 0, pos := ps, after := #[{ on := 7, ground := Ground.data }, { on := 7, ground := Ground.chain }, { on := 0, ground := Ground.phase }, { on := 1, ground := Ground.phase }, { on := 2, ground := Ground.phase }, { on := 3, ground := Ground.phase }, { on := 4, ground := Ground.phase }, { on := 5, ground := Ground.phase }, { on := 6, ground := Ground.phase }, { on := 7, ground := Ground.phase }], guard := none }]

theorem cell_setRow (w : World) {g k j : Nat} (h : k ≠ g) (cells : Array Value) : (w.setRow g cells).cell? ⟨k, j, none⟩ = w.cell? ⟨k, j, none⟩ := by
  have := setRow_other w h cells
  simp only [World.cell?, this]
theorem stepS {w0 W W' : World} {B5 B7 base : Nat} {l : List Int} {p : Str} {v : Value} (h : PB W B5 23 l ∧ W.cell? ⟨B7, 0, none⟩ = some (.string p) ∧ W.cell? ⟨B7, 1, none⟩ = some v ∧ Below base w0 W) (hbase : base ≤ w0.heap.size) (h5 : B5 < W.heap.size) (h7 : B7 < W.heap.size) (hb : Below W.heap.size W W') :
    PB W' B5 23 l ∧ W'.cell? ⟨B7, 0, none⟩ = some (.string p) ∧ W'.cell? ⟨B7, 1, none⟩ = some v ∧ Below base w0 W' :=
  ⟨h.1.below hb h5, (hb.cell h7).trans h.2.1, (hb.cell h7).trans h.2.2.1, h.2.2.2.trans (hb.mono (Nat.le_trans hbase h.2.2.2.size))⟩

set_option maxRecDepth 100000 in
set_option maxHeartbeats 4000000 in
theorem makes_region (Q : Exit → Act → World → Prop) (hQ : ∀ c x (n : Nat) v w, Q (.panic c) (x.put (some n) v) w → Q (.panic c) x w) (id : Nat) (ps : String) {v1 v2 v3 v4 v8 v9 v10 v11 v12 v13 v14 v15 v16 : Value}
    (t : Nat) (S : Sh) (l : List Int) (hl : l.length = 17) (p : Str) (L : List (Int × Int)) (hLp : allP L) (a : Option Addr) (cap B5 B6 B7 base : Nat) (w0 W : World) (hbase : base ≤ w0.heap.size)
    (hmk : ∀ W', Below W.heap.size W W' → Calls Try.prog 50 #[.pointer (some ⟨t, 0, none⟩), .string p, .agg (prC l)] W' fun e w' => ∃ m, Makes S l p m ∧ e = .returned (.agg (prC m)) ∧ Below W'.heap.size W' w')
    (hL : SetsAt W (.slice a L.length cap) L) (hR : PB W B6 23 zeroL) (hB5 : B5 < W.heap.size) (hB6 : B6 < W.heap.size) (hB7 : B7 < W.heap.size) (h56 : B5 ≠ B6) (h76 : B7 ≠ B6) (hB6b : base ≤ B6)
    (hS0 : PB W B5 23 l ∧ W.cell? ⟨B7, 0, none⟩ = some (.string p) ∧ W.cell? ⟨B7, 1, none⟩ = some (.slice a L.length cap) ∧ Below base w0 W)
    (hq : ∀ w' m, Makes S l p m → PB w' B6 23 (applyL m L) → Below base w0 w' → Q .normal (fr50 (.pointer (some ⟨t, 0, none⟩)) v1 v2 v3 v4 (.pointer (some ⟨B5, 0, none⟩)) (.pointer (some ⟨B6, 0, none⟩)) (.pointer (some ⟨B7, 0, none⟩)) v8 v9 v10 v11 v12 v13 v14 v15 v16 (.pointer (some ⟨t, 0, none⟩)) (.pointer (some ⟨B7, 0, none⟩)) (.string p) (.agg (prC l)) (.agg (prC m)) (.pointer (some ⟨B7, 1, none⟩)) (.slice a L.length cap) (.agg (prC (applyL m L)))) w') :
    (Code.region id (ops50 ps) true).wp Try.prog Q (fr50 (.pointer (some ⟨t, 0, none⟩)) v1 v2 v3 v4 (.pointer (some ⟨B5, 0, none⟩)) (.pointer (some ⟨B6, 0, none⟩)) (.pointer (some ⟨B7, 0, none⟩)) v8 v9 v10 v11 v12 v13 v14 v15 v16 undef undef undef undef undef undef undef undef) W := by
  refine wp_region_held (S := fun w' => PB w' B5 23 l ∧ w'.cell? ⟨B7, 0, none⟩ = some (.string p) ∧ w'.cell? ⟨B7, 1, none⟩ = some (.slice a L.length cap) ∧ Below base w0 w') (by kernel_rfl) ?_
  change wpAnyH _ _ _ _ _ 9 _ _ (World.drew W)
  have C0 : Below W.heap.size W W.drew := below_drew (Below.refl _ _)
  have hS : PB W.drew B5 23 l ∧ W.drew.cell? ⟨B7, 0, none⟩ = some (.string p) ∧ W.drew.cell? ⟨B7, 1, none⟩ = some (.slice a L.length cap) ∧ Below base w0 W.drew := stepS hS0 hbase hB5 hB7 C0
  refine take_h (i := 0) (oi := { dst := some 17, op := Op.move (Operand.tmp 0), type := 45, pos := ps, after := #[], guard := none }) (fuel := 8) (v := (.pointer (some ⟨t, 0, none⟩))) (fr50 (.pointer (some ⟨t, 0, none⟩)) v1 v2 v3 v4 (.pointer (some ⟨B5, 0, none⟩)) (.pointer (some ⟨B6, 0, none⟩)) (.pointer (some ⟨B7, 0, none⟩)) v8 v9 v10 v11 v12 v13 v14 v15 v16 (.pointer (some ⟨t, 0, none⟩)) undef undef undef undef undef undef undef) (by kernel_rfl) (by kernel_rfl) (by kernel_rfl) (by kernel_rfl) (fun c x w => hQ c x _ _ w) (by kernel_rfl) (fun _ hS => by kernel_rfl) (by kernel_rfl) hS ?_
  refine take_h (i := 1) (oi := { dst := some 18, op := Op.fieldAddr 82 (Operand.tmp 7) 0, type := 0, pos := ps, after := #[], guard := none }) (fuel := 7) (v := (.pointer (some ⟨B7, 0, none⟩))) (fr50 (.pointer (some ⟨t, 0, none⟩)) v1 v2 v3 v4 (.pointer (some ⟨B5, 0, none⟩)) (.pointer (some ⟨B6, 0, none⟩)) (.pointer (some ⟨B7, 0, none⟩)) v8 v9 v10 v11 v12 v13 v14 v15 v16 (.pointer (some ⟨t, 0, none⟩)) (.pointer (some ⟨B7, 0, none⟩)) undef undef undef undef undef undef) (by kernel_rfl) (by kernel_rfl) (by kernel_rfl) (by kernel_rfl) (fun c x w => hQ c x _ _ w) (by kernel_rfl) (fun _ hS => o_field82_0 _ rfl) (by kernel_rfl) hS ?_
  refine take_h (i := 2) (oi := { dst := some 19, op := Op.load 9 (Operand.tmp 18), type := 9, pos := ps, after := #[{ on := 1, ground := Ground.data }], guard := none }) (fuel := 6) (v := (.string p)) (fr50 (.pointer (some ⟨t, 0, none⟩)) v1 v2 v3 v4 (.pointer (some ⟨B5, 0, none⟩)) (.pointer (some ⟨B6, 0, none⟩)) (.pointer (some ⟨B7, 0, none⟩)) v8 v9 v10 v11 v12 v13 v14 v15 v16 (.pointer (some ⟨t, 0, none⟩)) (.pointer (some ⟨B7, 0, none⟩)) (.string p) undef undef undef undef undef) (by kernel_rfl) (by kernel_rfl) (by kernel_rfl) (by kernel_rfl) (fun c x w => hQ c x _ _ w) (by kernel_rfl) (fun _ hS => o_load9 _ _ hS.2.1 rfl) (by kernel_rfl) hS ?_
  refine take_h (i := 3) (oi := { dst := some 20, op := Op.load 23 (Operand.tmp 5), type := 23, pos := ps, after := #[], guard := none }) (fuel := 5) (v := (.agg (prC l))) (fr50 (.pointer (some ⟨t, 0, none⟩)) v1 v2 v3 v4 (.pointer (some ⟨B5, 0, none⟩)) (.pointer (some ⟨B6, 0, none⟩)) (.pointer (some ⟨B7, 0, none⟩)) v8 v9 v10 v11 v12 v13 v14 v15 v16 (.pointer (some ⟨t, 0, none⟩)) (.pointer (some ⟨B7, 0, none⟩)) (.string p) (.agg (prC l)) undef undef undef undef) (by kernel_rfl) (by kernel_rfl) (by kernel_rfl) (by kernel_rfl) (fun c x w => hQ c x _ _ w) (by kernel_rfl) (fun _ hS => o_loadP hS.1 rfl) (by kernel_rfl) hS ?_
  refine take_h (i := 5) (oi := { dst := some 22, op := Op.fieldAddr 82 (Operand.tmp 7) 1, type := 0, pos := ps, after := #[], guard := none }) (fuel := 4) (v := (.pointer (some ⟨B7, 1, none⟩))) (fr50 (.pointer (some ⟨t, 0, none⟩)) v1 v2 v3 v4 (.pointer (some ⟨B5, 0, none⟩)) (.pointer (some ⟨B6, 0, none⟩)) (.pointer (some ⟨B7, 0, none⟩)) v8 v9 v10 v11 v12 v13 v14 v15 v16 (.pointer (some ⟨t, 0, none⟩)) (.pointer (some ⟨B7, 0, none⟩)) (.string p) (.agg (prC l)) undef (.pointer (some ⟨B7, 1, none⟩)) undef undef) (by kernel_rfl) (by kernel_rfl) (by kernel_rfl) (by kernel_rfl) (fun c x w => hQ c x _ _ w) (by kernel_rfl) (fun _ hS => o_field82_1 _ rfl) (by kernel_rfl) hS ?_
  refine take_h (i := 6) (oi := { dst := some 23, op := Op.load 44 (Operand.tmp 22), type := 44, pos := ps, after := #[{ on := 5, ground := Ground.data }], guard := none }) (fuel := 3) (v := (.slice a L.length cap)) (fr50 (.pointer (some ⟨t, 0, none⟩)) v1 v2 v3 v4 (.pointer (some ⟨B5, 0, none⟩)) (.pointer (some ⟨B6, 0, none⟩)) (.pointer (some ⟨B7, 0, none⟩)) v8 v9 v10 v11 v12 v13 v14 v15 v16 (.pointer (some ⟨t, 0, none⟩)) (.pointer (some ⟨B7, 0, none⟩)) (.string p) (.agg (prC l)) undef (.pointer (some ⟨B7, 1, none⟩)) (.slice a L.length cap) undef) (by kernel_rfl) (by kernel_rfl) (by kernel_rfl) (by kernel_rfl) (fun c x w => hQ c x _ _ w) (by kernel_rfl) (fun _ hS => o_load44 _ _ hS.2.2.1 rfl) (by kernel_rfl) hS ?_
  refine want_h (i := 4) (oi := { dst := some 21, op := Op.call { callee := Callee.value (Operand.func 50), args := #[Operand.tmp 17, Operand.tmp 19, Operand.tmp 20], argTypes := #[45, 9, 23] }, type := 23, pos := ps, after := #[{ on := 0, ground := Ground.data }, { on := 2, ground := Ground.data }, { on := 3, ground := Ground.data }], guard := none }) (fuel := 2) (by kernel_rfl) (by kernel_rfl) (by kernel_rfl) fun K hK => ?_
  unfold fr50
  go_simp
  refine (hmk _ C0).mono ?_
  rintro e y1 ⟨m, hm, rfl, hb⟩
  have C1 : Below W.heap.size W y1 := C0.trans (hb.mono C0.size)
  have hml := hm.length hl
  clear hb
  have hS1 : PB y1 B5 23 l ∧ y1.cell? ⟨B7, 0, none⟩ = some (.string p) ∧ y1.cell? ⟨B7, 1, none⟩ = some (.slice a L.length cap) ∧ Below base w0 y1 := stepS hS0 hbase hB5 hB7 C1
  refine hK _ _ hS1 (cast_h (fr50 (.pointer (some ⟨t, 0, none⟩)) v1 v2 v3 v4 (.pointer (some ⟨B5, 0, none⟩)) (.pointer (some ⟨B6, 0, none⟩)) (.pointer (some ⟨B7, 0, none⟩)) v8 v9 v10 v11 v12 v13 v14 v15 v16 (.pointer (some ⟨t, 0, none⟩)) (.pointer (some ⟨B7, 0, none⟩)) (.string p) (.agg (prC l)) (.agg (prC m)) (.pointer (some ⟨B7, 1, none⟩)) (.slice a L.length cap) undef) (by kernel_rfl) ?_)
  clear hK K
  refine want_h (i := 7) (oi := { dst := some 24, op := Op.call { callee := Callee.value (Operand.func 35), args := #[Operand.tmp 21, Operand.tmp 23], argTypes := #[23, 44] }, type := 23, pos := ps, after := #[{ on := 4, ground := Ground.data }, { on := 6, ground := Ground.data }, { on := 4, ground := Ground.chain }], guard := none }) (fuel := 1) (by kernel_rfl) (by kernel_rfl) (by kernel_rfl) fun K hK => ?_
  unfold fr50
  go_simp
  refine (apply_any m hml _ L hLp _ (hL.below C1)).mono ?_
  rintro e y2 ⟨rfl, hb⟩
  have C2 : Below W.heap.size W y2 := C1.trans (hb.mono C1.size)
  clear hb
  have hS2 : PB y2 B5 23 l ∧ y2.cell? ⟨B7, 0, none⟩ = some (.string p) ∧ y2.cell? ⟨B7, 1, none⟩ = some (.slice a L.length cap) ∧ Below base w0 y2 := stepS hS0 hbase hB5 hB7 C2
  have hR2 := hR.below C2 hB6
  have hfl : (applyL m L).length = 17 := by rw [applyL_length]; exact hml
  refine hK _ _ hS2 (cast_h (fr50 (.pointer (some ⟨t, 0, none⟩)) v1 v2 v3 v4 (.pointer (some ⟨B5, 0, none⟩)) (.pointer (some ⟨B6, 0, none⟩)) (.pointer (some ⟨B7, 0, none⟩)) v8 v9 v10 v11 v12 v13 v14 v15 v16 (.pointer (some ⟨t, 0, none⟩)) (.pointer (some ⟨B7, 0, none⟩)) (.string p) (.agg (prC l)) (.agg (prC m)) (.pointer (some ⟨B7, 1, none⟩)) (.slice a L.length cap) (.agg (prC (applyL m L)))) (by kernel_rfl) ?_)
  clear hK K
  refine want_h (i := 8) (oi := { dst := none, op := Op.store 23 (Operand.tmp 6) (Operand.tmp 24), type := 0, pos := ps, after := #[{ on := 7, ground := Ground.data }, { on := 7, ground := Ground.chain }, { on := 0, ground := Ground.phase }, { on := 1, ground := Ground.phase }, { on := 2, ground := Ground.phase }, { on := 3, ground := Ground.phase }, { on := 4, ground := Ground.phase }, { on := 5, ground := Ground.phase }, { on := 6, ground := Ground.phase }, { on := 7, ground := Ground.phase }], guard := none }) (fuel := 0) (by kernel_rfl) (by kernel_rfl) (by kernel_rfl) fun K hK => ?_
  refine wp_store_row 23 _ _ rfl B6 (prC (applyL m L)) rfl rfl 23 _ hR2.row (info23l hfl) (by rw [prC_size, prC_size, hfl]; exact hR2.len) (prC_one _) ?_
  have hS3 : PB (y2.setRow B6 (prC (applyL m L))) B5 23 l ∧ (y2.setRow B6 (prC (applyL m L))).cell? ⟨B7, 0, none⟩ = some (.string p) ∧ (y2.setRow B6 (prC (applyL m L))).cell? ⟨B7, 1, none⟩ = some (.slice a L.length cap) ∧ Below base w0 (y2.setRow B6 (prC (applyL m L))) := ⟨⟨hS2.1.len, (setRow_other _ h56 _).trans hS2.1.row⟩, by rw [← hS2.2.1]; exact cell_setRow _ h76 _, by rw [← hS2.2.2.1]; exact cell_setRow _ h76 _, below_setRow hS2.2.2.2 hB6b _⟩
  refine hK _ _ hS3 (cast_h (fr50 (.pointer (some ⟨t, 0, none⟩)) v1 v2 v3 v4 (.pointer (some ⟨B5, 0, none⟩)) (.pointer (some ⟨B6, 0, none⟩)) (.pointer (some ⟨B7, 0, none⟩)) v8 v9 v10 v11 v12 v13 v14 v15 v16 (.pointer (some ⟨t, 0, none⟩)) (.pointer (some ⟨B7, 0, none⟩)) (.string p) (.agg (prC l)) (.agg (prC m)) (.pointer (some ⟨B7, 1, none⟩)) (.slice a L.length cap) (.agg (prC (applyL m L)))) (by kernel_rfl) ?_)
  clear hK K
  exact wpAnyH_done (by kernel_rfl) (hq _ m hm ⟨hfl, setRow_same _ hR2.row _⟩ hS3.2.2.2) _
end Go.Proofs.Ytifkelpgpdgenaa
