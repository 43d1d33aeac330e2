/-
  What is proved here: Items, from where it gathers what the iterator hands on.
  What is proved here: Items, from where its body is made.
-/
import Derived.Test.YtbdpghjegachaaaGreatDoorG26
namespace Go.Proofs.YtbdpghjegachaaaGreatDoor
open Go.RowKit Go.Shelf
attribute [local go_sem] Oper.semAt_some wide_fn wide_depth

def rest9b : Code := (Code.region 9 #[{ dst := some 7, op := Op.alloc 77, type := 0, pos := "item.go:39", after := #[], guard := none }] false).seq (((Code.region 10 #[{ dst := some 48, op := Op.load 171 (Operand.tmp 6), type := 171, pos := "item.go:40", after := #[], guard := none }, { dst := some 49, op := Op.call { callee := Callee.value (Operand.func 129), args := #[Operand.tmp 48], argTypes := #[171] }, type := 173, pos := "item.go:40", after := #[{ on := 0, ground := Ground.data }], guard := none }] false).seq (Code.block 0 (Code.rangeFunc (Operand.tmp 49) #[50] (Code.region 11 #[{ dst := some 8, op := Op.alloc 129, type := 0, pos := "item.go:40", after := #[], guard := none }, { dst := none, op := Op.store 129 (Operand.tmp 8) (Operand.tmp 50), type := 0, pos := "item.go:40", after := #[{ on := 0, ground := Ground.data }, { on := 0, ground := Ground.phase }], guard := none }] false) (Code.block 1 (Code.region 12 #[{ dst := some 51, op := Op.load 77 (Operand.tmp 7), type := 77, pos := "item.go:41", after := #[], guard := none }, { dst := some 52, op := Op.load 129 (Operand.tmp 8), type := 129, pos := "item.go:41", after := #[], guard := none }, { dst := some 53, op := Op.buildSlice 77 1 #[(0, Operand.tmp 52)], type := 77, pos := "item.go:41", after := #[{ on := 1, ground := Ground.data }], guard := none }, { dst := some 54, op := Op.call { callee := Callee.builtin Builtin.append, args := #[Operand.tmp 51, Operand.tmp 53], argTypes := #[77, 77] }, type := 77, pos := "item.go:41", after := #[{ on := 0, ground := Ground.data }, { on := 2, ground := Ground.data }], guard := none }, { dst := none, op := Op.store 77 (Operand.tmp 7) (Operand.tmp 54), type := 0, pos := "item.go:41", after := #[{ on := 3, ground := Ground.data }, { on := 3, ground := Ground.chain }, { on := 0, ground := Ground.phase }, { on := 1, ground := Ground.phase }, { on := 2, ground := Ground.phase }, { on := 3, ground := Ground.phase }], guard := none }] false))))).seq ((Code.region 13 #[{ dst := some 55, op := Op.load 77 (Operand.tmp 7), type := 77, pos := "item.go:43", after := #[], guard := none }, { dst := some 2, op := Op.assign (Operand.tmp 55), type := 77, pos := "item.go:43", after := #[{ on := 0, ground := Ground.data }, { on := 0, ground := Ground.phase }], guard := none }, { dst := some 3, op := Op.assign (Operand.const (Value.int IntKind.i64 0)), type := 32, pos := "item.go:43", after := #[{ on := 1, ground := Ground.chain }, { on := 0, ground := Ground.phase }, { on := 1, ground := Ground.phase }], guard := none }] false).seq Code.ret))
def rest9 : Code := ((Code.region 7 #[{ dst := some 42, op := Op.fieldAddr 27 (Operand.tmp 1) 2, type := 0, pos := "item.go:36", after := #[], guard := none }, { dst := some 43, op := Op.fieldAddr 24 (Operand.tmp 42) 12, type := 0, pos := "item.go:36", after := #[{ on := 0, ground := Ground.data }], guard := none }, { dst := some 44, op := Op.load 3 (Operand.tmp 43), type := 3, pos := "item.go:36", after := #[{ on := 1, ground := Ground.data }], guard := none }, { dst := some 45, op := Op.binOp BinOp.eql 3 (Operand.tmp 44) (Operand.const (Value.int IntKind.i64 1)) 3, type := 4, pos := "item.go:36", after := #[{ on := 2, ground := Ground.data }], guard := none }] false).seq (Code.cond (Operand.tmp 45) (Code.region 8 #[{ dst := some 46, op := Op.load 171 (Operand.tmp 6), type := 171, pos := "item.go:37", after := #[], guard := none }, { dst := some 47, op := Op.call { callee := Callee.value (Operand.func 128), args := #[Operand.tmp 46], argTypes := #[171] }, type := 0, pos := "item.go:37", after := #[{ on := 0, ground := Ground.data }], guard := none }] false) Code.skip)).seq rest9b

theorem steady_rowF {w₁ : World} {own : Nat → Prop} {B : Nat} (hB : B < w₁.heap.size) (base : Nat) (t : TypeId) (k : Nat → Nat) (xs : Nat → List Value) :
    Steady (fun i X W => Base w₁ own X W ∧ ∃ v, W.heap[B]? = some (.cells #[v] t) ∧ W.ownsRow base 129 8 v (k i) (xs i) ∧ FillI W v ∧ ∀ g, v.ownBlock = some g → ¬ X g) :=
  fun _ X X' W W' hs ht hx => by
    obtain ⟨hb, v, hv, hr, hf, hg⟩ := hs
    refine ⟨hb.step ht hx, v, (hb.keep ht hB).trans hv, ownsRow_turns hr ht hg, hf.turns ht (fun g h => ⟨(hr.lt g h).2, hg g h⟩), fun g h h' => ?_⟩
    have := (hr.lt g h).2
    exact (hx g h').elim (hg g h) (fun h => by omega)
theorem FillI.set {W : World} {v : Value} (h : FillI W v) {B : Nat} (x : Value) (hx : v.ownBlock ≠ some B) : FillI (W.setCell ⟨B, 0, none⟩ x) v := fun g n cap cur e hg => by
  rw [Below.heap_setCell _ _ _ g (fun e' => hx (by rw [e, e']; rfl))] at hg
  exact h g n cap cur e hg
theorem rowI_succ (l : List It) {j : Nat} (h : j < l.length) : (l.take (j + 1)).flatMap itL = (l.take j).flatMap itL ++ itL (itAt l j) := by
  rw [List.take_add_one, List.flatMap_append, itAt_is h, List.getElem?_eq_getElem h]
  simp

set_option maxRecDepth 100000 in
set_option maxHeartbeats 4000000 in
theorem items_b (R : Ending → World → Prop) (b : Bod) (Bx : Nat) (w W : World) {v0 v1 v2 v3 v4 v5 v7 v8 v9 v10 v11 v12 v13 v14 v15 v16 v17 v18 v19 v20 v21 v22 v23 v24 v25 v26 v27 v28 v29 v30 v31 v32 v33 v34 v35 v36 v37 v38 v39 v40 v41 v42 v43 v44 v45 v46 v47 v48 v49 v50 v51 v52 v53 v54 v55 : Value} (hb : Below w.heap.size w W) (hbx : W.heap[Bx]? = some (.cells (bodC b) 171 (0, 0))) (hA : BodAt W b)
    (hE : ∀ W' v, W'.ownsRow w.heap.size 129 8 v (itsL b.t b.l b.pd).length ((itsL b.t b.l b.pd).flatMap itL) → FillI W' v → Below w.heap.size w W' → R (.returned (.tuple #[v, .int .i64 0])) W') :
    rest9b.wp Tryz.prog (bodyPostM Fence.wide 0 Tryz.prog Tryz.f99 R) (fr9 v0 v1 v2 v3 v4 v5 (.pointer (some ⟨Bx, 0, none⟩)) v7 v8 v9 v10 v11 v12 v13 v14 v15 v16 v17 v18 v19 v20 v21 v22 v23 v24 v25 v26 v27 v28 v29 v30 v31 v32 v33 v34 v35 v36 v37 v38 v39 v40 v41 v42 v43 v44 v45 v46 v47 v48 v49 v50 v51 v52 v53 v54 v55) W := by
  unfold rest9b fr9
  have hbx2 : Hid ((W.alloc (.cells #[.slice none 0 0] 77)).heap[Bx]? = some (.cells (bodC b) 171 (0, 0))) := (Below.heap_alloc _ _ _ (Array.getElem?_eq_some_iff.1 hbx).1).trans hbx
  have hit : Hid (Calls Tryz.prog 129 #[.agg (bodC b)] (W.alloc (.cells #[.slice none 0 0] 77)) fun e W' => e = .returned (.func (.func 148) #[] #[.pointer (some ⟨W.heap.size + 1, 0, none⟩)]) ∧ W' = (W.alloc (.cells #[.slice none 0 0] 77)).alloc (.cells (bodC b) 171)) := by
    have := items_any b (W.alloc (.cells #[.slice none 0 0] 77))
    rw [World.size_alloc] at this
    exact this
  have hEh : Hid (∀ W' v, W'.ownsRow w.heap.size 129 8 v (itsL b.t b.l b.pd).length ((itsL b.t b.l b.pd).flatMap itL) → FillI W' v → Below w.heap.size w W' → R (.returned (.tuple #[v, .int .i64 0])) W') := hE
  obtain ⟨w1, hw1⟩ : ∃ w1, (W.alloc (.cells #[.slice none 0 0] 77)).alloc (.cells (bodC b) 171) = w1 := ⟨_, rfl⟩
  have hs1 : w1.heap.size = W.heap.size + 2 := by rw [← hw1]; simp
  have hT1 : Turns Noth W w1 := by rw [← hw1]; exact (Turns.alloc _ _ _).trans (Turns.alloc _ _ _)
  have hB1 : w1.heap[W.heap.size]? = some (.cells #[.slice none 0 0] 77) := by rw [← hw1]; exact (Below.heap_alloc _ _ _ (by simp)).trans (World.alloc_heap_new W _)
  have hBo : BoX w1 (W.heap.size + 1) b := ⟨by rw [← hw1]; have := World.alloc_heap_new (W.alloc (.cells #[.slice none 0 0] 77)) (.cells (bodC b) 171); rwa [World.size_alloc] at this⟩
  have hWb : Below W.heap.size W w1 := by rw [← hw1]; exact two_below W _ _
  have hA1 : BodAt w1 b := hA.below hWb (Nat.le_refl _)
  have hrd : Hid (∀ W', Turns (fun k => k = W.heap.size) w1 W' → RdI (W.heap.size + 1) b W') := fun W' ht => by
    have hlt : ∀ {v : Value} {α : Type} {k : Nat} {f : α → List Value} {rs : List α}, RecAt k f W v rs → RecAt k f w1 v rs → RecAt k f W' v rs := fun {v α k f rs} h0 h1 => by
      have hle := h1.le
      obtain ⟨aa, cc, rfl, h2⟩ := h0.ex
      refine ⟨⟨aa, cc, rfl, ?_⟩, hle⟩
      rcases h2 with h2 | ⟨b', o', rfl, hb', hc⟩
      · exact .inl h2
      · refine .inr ⟨b', o', rfl, ?_, fun i hi j u hu => ?_⟩
        · have := hWb.size; have := ht.size; omega
        · rw [World.cell?_of_block (ht.block b' (by have := hWb.size; omega) (by omega)), hWb.cell hb']
          exact hc i hi j u hu
    exact ⟨⟨(ht.block _ (Array.getElem?_eq_some_iff.1 hBo.row).1 (by omega)).trans hBo.row⟩, ⟨hlt hA.ms hA1.ms, hlt hA.pv hA1.pv, hA.len, hA.few, hA.fit⟩⟩
  have hfew := its_few b.t b.l b.pd
  have hl4 := hA.few
  obtain ⟨i0, hi, hz0, hz1, hz2⟩ := info_parts info51z
  have hw1' : Hid ((W.alloc (.cells #[.slice none 0 0] 77)).alloc (.cells (bodC b) 171) = w1) := hw1
  clear hw1 hBo hA1 hA hE hbx
  go_wp2_with (first | (refine wpList_load_row rfl 171 _ rfl Bx rfl 171 _ (0, 0) _ hbx2.out Tryz.underlying171 rfl (by show _ = some 3; kernel_rfl) ?_) | (go_at_call 129; refine hit.out.mono ?_; rintro e w' ⟨rfl, hww⟩; rw [hw1'.out] at hww; subst w'))
  refine (wpIn_wide (n := 0)).1 ?_
  refine wp_range (gf := 148) (lb := #[.pointer (some ⟨W.heap.size + 1, 0, none⟩)]) rfl (enters_of Tryz.func148 (by kernel_rfl) rfl) (items1_gives (W.heap.size + 1) b) (fun _ => rfl)
    (fun j X W' => Base w1 (fun k => k = W.heap.size) X W' ∧ ∃ v, W'.heap[W.heap.size]? = some (.cells #[v] 77) ∧ W'.ownsRow w1.heap.size 129 8 v j (((itsL b.t b.l b.pd).take j).flatMap itL) ∧ FillI W' v ∧ ∀ g, v.ownBlock = some g → ¬ X g)
    (fun _ _ _ _ => False)
    (fun a' j X W' => (Base w1 (fun k => k = W.heap.size) X W' ∧ ∃ v, W'.heap[W.heap.size]? = some (.cells #[v] 77) ∧ W'.ownsRow w1.heap.size 129 8 v j (((itsL b.t b.l b.pd).take j).flatMap itL) ∧ FillI W' v ∧ ∀ g, v.ownBlock = some g → ¬ X g) ∧
      ∃ B, ¬ X B ∧ W'.heap[B]? = some (.cells (itC (itAt (itsL b.t b.l b.pd) j)) 129) ∧
      a' = { tmps := #[v0, v1, v2, v3, v4, v5, .pointer (some ⟨Bx, 0, none⟩), .pointer (some ⟨W.heap.size, 0, none⟩), .pointer (some ⟨B, 0, none⟩), v9, v10, v11, v12, v13, v14, v15, v16, v17, v18, v19, v20, v21, v22, v23, v24, v25, v26, v27, v28, v29, v30, v31, v32, v33, v34, v35, v36, v37, v38, v39, v40, v41, v42, v43, v44, v45, v46, v47, .agg (bodC b), .func (.func 148) #[] #[.pointer (some ⟨W.heap.size + 1, 0, none⟩)], .agg (itC (itAt (itsL b.t b.l b.pd) j)), v51, v52, v53, v54, v55], defers := [] })
    (steady_rowF (by omega) _ _ _ _) (fun _ => steady_never) (fun a' => (steady_rowF (by omega) _ _ _ _).and (steady_round a' _ _)) ?hR ⟨Base.start _ _, _, hB1, World.ownsRow_nil _ _ _ _, FillI.nil _, fun g hg => by cases hg⟩ ?assign ?body ?done ?stop
  case hR =>
    rintro i X W' ⟨hb', _⟩
    exact hrd.out W' hb'.turns
  case assign =>
    rintro l j X W' K hj ⟨hb', v, hv, hr, hf, hg⟩ hK
    unfold encI
    have hsz := hb'.turns.size
    have hnx : Hid ((Base w1 (fun k => k = W.heap.size) X (W'.alloc (.cells (itC (itAt (itsL b.t b.l b.pd) j)) 129)) ∧ ∃ v, (W'.alloc (.cells (itC (itAt (itsL b.t b.l b.pd) j)) 129)).heap[W.heap.size]? = some (.cells #[v] 77) ∧ (W'.alloc (.cells (itC (itAt (itsL b.t b.l b.pd) j)) 129)).ownsRow w1.heap.size 129 8 v j (((itsL b.t b.l b.pd).take j).flatMap itL) ∧ FillI (W'.alloc (.cells (itC (itAt (itsL b.t b.l b.pd) j)) 129)) v ∧ ∀ g, v.ownBlock = some g → ¬ X g) ∧ ¬ X W'.heap.size ∧ (W'.alloc (.cells (itC (itAt (itsL b.t b.l b.pd) j)) 129)).heap[W'.heap.size]? = some (.cells (itC (itAt (itsL b.t b.l b.pd) j)) 129)) :=
      ⟨⟨hb'.alloc _, v, (Below.heap_alloc _ _ _ (by omega)).trans hv, hr.alloc _, hf.turns (Turns.alloc Noth _ _) (fun g h => ⟨(hr.lt g h).2, fun h => h⟩), hg⟩, hb'.fresh, World.alloc_heap_new _ _⟩
    have hK' : Hid (∀ a', a' = ({ tmps := #[v0, v1, v2, v3, v4, v5, .pointer (some ⟨Bx, 0, none⟩), .pointer (some ⟨W.heap.size, 0, none⟩), .pointer (some ⟨W'.heap.size, 0, none⟩), v9, v10, v11, v12, v13, v14, v15, v16, v17, v18, v19, v20, v21, v22, v23, v24, v25, v26, v27, v28, v29, v30, v31, v32, v33, v34, v35, v36, v37, v38, v39, v40, v41, v42, v43, v44, v45, v46, v47, .agg (bodC b), .func (.func 148) #[] #[.pointer (some ⟨W.heap.size + 1, 0, none⟩)], .agg (itC (itAt (itsL b.t b.l b.pd) j)), v51, v52, v53, v54, v55], defers := [] } : Act) → K a' (W'.alloc (.cells (itC (itAt (itsL b.t b.l b.pd) j)) 129))) := fun a' e => hK _ _ (Keeps.alloc _ _ _) ⟨hnx.out.1, W'.heap.size, hnx.out.2.1, hnx.out.2.2, e⟩
    clear hnx hK hf hr hv hrd
    generalize itAt (itsL b.t b.l b.pd) j = x at *
    obtain ⟨xk, xf, xt, xw, xs, xh, xc, xy⟩ := x
    unfold itC at hK' ⊢
    gi_wp2
    exact hK'.out _ rfl
  case body =>
    rintro l j X a' W' hj ⟨⟨hb', v, hv, hrow, hfl, hg⟩, B, hB, hr, rfl⟩
    have hc0 : W'.cell? ⟨W.heap.size, 0, none⟩ = some v := by rw [Lib.cell_of_heap hv]; rfl
    have hbs := hb'.turns.size
    have hjn : j < (itsL b.t b.l b.pd).length := hj
    have hsucc := rowI_succ (itsL b.t b.l b.pd) hjn
    have hkds : KdL (((itsL b.t b.l b.pd).take j).flatMap itL) := kd_its _
    have hkx := kd_item (itAt (itsL b.t b.l b.pd) j)
    have hxl : ((((itsL b.t b.l b.pd).take j).flatMap itL)).length = j * 8 := by rw [fm_len itL_len, List.length_take]; congr 1; omega
    have hstep : Hid (∀ v' w2, w2.ownsRow w1.heap.size 129 8 v' (j + 1) (((itsL b.t b.l b.pd).take j).flatMap itL ++ itL (itAt (itsL b.t b.l b.pd) j)) → (W'.alloc (.cells (itC (itAt (itsL b.t b.l b.pd) j)) 129)).grownBy w2 v.ownBlock → (v'.ownBlock = v.ownBlock ∨ ∀ g, v'.ownBlock = some g → (W'.alloc (.cells (itC (itAt (itsL b.t b.l b.pd) j)) 129)).heap.size ≤ g) → FillI w2 v' → (∃ g' cap', v' = .slice g' (j + 1) cap') ∧ w2.cell? ⟨W.heap.size, 0, none⟩ = some v ∧ w2.frozen? ⟨W.heap.size, 0, none⟩ = false ∧ leftBy (fun j X W' => Base w1 (fun k => k = W.heap.size) X W' ∧ ∃ v, W'.heap[W.heap.size]? = some (.cells #[v] 77) ∧ W'.ownsRow w1.heap.size 129 8 v j (((itsL b.t b.l b.pd).take j).flatMap itL) ∧ FillI W' v ∧ ∀ g, v.ownBlock = some g → ¬ X g) (fun _ _ _ _ => False) j X W' .normal { tmps := #[], defers := [] } (w2.setCell ⟨W.heap.size, 0, none⟩ v')) := fun v' w2 hown' hgrow hwh hfl' => by
      obtain ⟨hv1, q1, q2, q3, q4, q5⟩ := append_step hb' (by omega) hv (by decide) hrow hg hown' hgrow hwh
      obtain ⟨g', cap', hv'⟩ := Hy.row_val hown'
      refine ⟨⟨g', cap', hv'⟩, hv1.cell, hv1.frozen, q1, q2, _, q3, by rw [hsucc]; exact q4, hfl'.set _ ?_, q5⟩
      exact (hv1.not_row (by decide) hown').symm
    have hrowa : Hid ((W'.alloc (.cells (itC (itAt (itsL b.t b.l b.pd) j)) 129)).ownsRow w1.heap.size 129 8 v j (((itsL b.t b.l b.pd).take j).flatMap itL)) := hrow.alloc _
    have hfla : Hid (FillI (W'.alloc (.cells (itC (itAt (itsL b.t b.l b.pd) j)) 129)) v) := hfl.turns (Turns.alloc Noth _ _) (fun g h => ⟨(hrow.lt g h).2, fun h => h⟩)
    have hnew : Hid (∀ q u, (itL (itAt (itsL b.t b.l b.pd) j))[q]? = some u → (W'.alloc (.cells (itC (itAt (itsL b.t b.l b.pd) j)) 129)).cell? ((⟨W'.heap.size, 0, none⟩ : Addr).add q) = some u) := cells_new W' (itL (itAt (itsL b.t b.l b.pd) j)) 129
    have hj8 : j + 1 ≤ 8193 := by omega
    obtain ⟨rowj, hrowj⟩ : ∃ r, ((itsL b.t b.l b.pd).take j).flatMap itL = r := ⟨_, rfl⟩
    rw [hrowj] at hkds hrowa
    have hstep2 := hstep
    clear hrow hfl hv hsucc hxl hrd hg hb'
    have hr0 : W'.heap[B]? = some (.cells (itC (itAt (itsL b.t b.l b.pd) j)) 129) := hr
    generalize itAt (itsL b.t b.l b.pd) j = x at *
    obtain ⟨xk, xf, xt, xw, xs, xh, xc, xy⟩ := x
    have r0 : W'.cell? ⟨B, 0, none⟩ = some (.int .i64 xk) := by rw [Lib.cell_of_heap hr]; rfl
    have r1 : W'.cell? ⟨B, 1, none⟩ = some (.int .i64 xf) := by rw [Lib.cell_of_heap hr]; rfl
    have r2 : W'.cell? ⟨B, 2, none⟩ = some (.int .i64 xt) := by rw [Lib.cell_of_heap hr]; rfl
    have r3 : W'.cell? ⟨B, 3, none⟩ = some (.int .i64 xw) := by rw [Lib.cell_of_heap hr]; rfl
    have r4 : W'.cell? ⟨B, 4, none⟩ = some (.int .i64 xs) := by rw [Lib.cell_of_heap hr]; rfl
    have r5 : W'.cell? ⟨B, 5, none⟩ = some (.int .i64 xh) := by rw [Lib.cell_of_heap hr]; rfl
    have r6 : W'.cell? ⟨B, 6, none⟩ = some (.int .i64 xc) := by rw [Lib.cell_of_heap hr]; rfl
    have r7 : W'.cell? ⟨B, 7, none⟩ = some (.bool xy) := by rw [Lib.cell_of_heap hr]; rfl
    clear hr0 hr
    unfold itC at *
    clear hs1
    gi_wp2_with (gi_at_builtin; refine wpListIn_append_kinds _ rfl _ _ 77 rfl w1.heap.size i0 Tryz.underlying77 hi hz0 hz1 hz2 v j rowj rfl hrowa.out hkds hfla.out ⟨W'.heap.size, 0, none⟩ 1 _ rfl rfl hnew.out (itL_one _) hkx (by unfold maxLen; omega) (by omega) (by simp; omega) ?_; intro v' w2 hown' hgrow hwh hfl'; obtain ⟨⟨g', cap', rfl⟩, hc1, hf1, hlb⟩ := hstep2.out v' w2 (by rw [hrowj]; exact hown') hgrow hwh hfl')
    exact hlb
  case done =>
    rintro D W' hD ⟨hb', v, hv, hrow, hfl, hg⟩ hK
    have hc0 : W'.cell? ⟨W.heap.size, 0, none⟩ = some v := by rw [Lib.cell_of_heap hv]; rfl
    rw [List.take_of_length_le (Nat.le_refl _)] at hrow
    have hfin : Hid (∀ o, R (.returned (.tuple #[v, .int .i64 0])) (W'.putObj D o)) := fun o => by
      have ht := Turns.putObj (X := fun k => k = D) W' rfl o
      refine hEh.out _ v (ownsRow_turns (ownsRow_base hrow (by have := hb.size; omega)) ht hg) (hfl.turns ht (fun g h => ⟨(hrow.lt g h).2, hg g h⟩)) ?_
      exact hb.trans ((below_end hT1 hb' (fun k h => by omega) o).mono hb.size)
    have hsz := hb'.turns.size
    clear hrow hfl hrd hEh
    go_wp2_with fail
    refine ⟨by simp, .inl ⟨_, _, rfl, run_takeDeferred hK, ?_⟩⟩
    refine ⟨_, results_tmp2 rfl _ _ _, ?_⟩
    exact hfin.out _
  case stop =>
    rintro D c i W' _ _ h _
    exact h.elim
end Go.Proofs.YtbdpghjegachaaaGreatDoor

namespace Go.Proofs.YtbdpghjegachaaaGreatDoor
open Go.RowKit Go.Shelf

/-- What Items answers. -/
def ItemsEnd (a : Pa) (w : World) (e : Ending) (w' : World) : Prop :=
  (∃ v, e = .returned (.tuple #[v, .int .i64 (chkI a)]) ∧ ((chkI a ≠ 0 ∧ v = .slice none 0 0) ∨ (chkI a = 0 ∧ w'.ownsRow w.heap.size 129 8 v (itemsOf a).length ((itemsOf a).flatMap itL) ∧ FillI w' v))) ∧ Below w.heap.size w w'

set_option maxRecDepth 100000 in
set_option maxHeartbeats 4000000 in
theorem items_a (R : Ending → World → Prop) (a : Pa) (B0 Bx Pb cm : Nat) (am : Option Addr) (w W : World) {v0 v2 v3 v4 v5 v7 v8 v9 v10 v11 v12 v13 v14 v15 v16 v17 v18 v19 v20 v21 v22 v23 v24 v25 v26 v27 v28 v29 v30 v31 v32 v33 v34 v35 v36 v37 v38 v39 v40 v41 v42 v43 v44 v45 v46 v47 v48 v49 v50 v51 v52 v53 v54 v55 : Value} (hb : Below w.heap.size w W) (hP : PB W B0 a)
    (hbx : W.heap[Bx]? = some (.cells #[.string a.t, .slice am (bodyL a).length cm, .slice (some ⟨Pb, 0, none⟩) (bodyL a).length (bodyL a).length] 171 (0, 0))) (hbl : Hy.Blk W Pb (bcells (List.replicate (bodyL a).length false)) 4)
    (hms : RecAt 6 msL W (.slice am (bodyL a).length cm) (bodyL a)) (hne : ∀ g o, am = some ⟨g, o, none⟩ → g ≠ Pb) (hPb : w.heap.size ≤ Pb) (hPx : Pb ≠ Bx) (htb : Hy.Tab W) (hG : GoodP a)
    (hE : ∀ W' v, W'.ownsRow w.heap.size 129 8 v (itemsOf a).length ((itemsOf a).flatMap itL) → FillI W' v → Below w.heap.size w W' → R (.returned (.tuple #[v, .int .i64 0])) W') :
    rest9.wp Tryz.prog (bodyPostM Fence.wide 0 Tryz.prog Tryz.f99 R) (fr9 v0 (.pointer (some ⟨B0, 0, none⟩)) v2 v3 v4 v5 (.pointer (some ⟨Bx, 0, none⟩)) v7 v8 v9 v10 v11 v12 v13 v14 v15 v16 v17 v18 v19 v20 v21 v22 v23 v24 v25 v26 v27 v28 v29 v30 v31 v32 v33 v34 v35 v36 v37 v38 v39 v40 v41 v42 v43 v44 v45 v46 v47 v48 v49 v50 v51 v52 v53 v54 v55) W := by
  have c14 : W.cell? ⟨B0, 14, none⟩ = some (.int .i64 a.p.p12) := hP.cell rfl
  have hA0 : BodAt W ⟨a.t, .slice am (bodyL a).length cm, .slice (some ⟨Pb, 0, none⟩) (bodyL a).length (bodyL a).length, bodyL a, List.replicate (bodyL a).length false⟩ :=
    ⟨hms, bools_of hbl (by simp) (Nat.le_refl _), by simp, bodyL_few hG, bodyL_fit hG⟩
  have hpd : Hid (pdOf a = if a.p.p12 = 1 then partL a.t (bodyL a) (List.replicate (bodyL a).length false) else List.replicate (bodyL a).length false) := rfl
  have hio : Hid (itemsOf a = itsL a.t (bodyL a) (pdOf a)) := rfl
  unfold rest9 fr9
  by_cases h1 : a.p.p12 = 1
  · have hpt := part_any ⟨a.t, .slice am (bodyL a).length cm, .slice (some ⟨Pb, 0, none⟩) (bodyL a).length (bodyL a).length, bodyL a, List.replicate (bodyL a).length false⟩ Pb W hA0 htb hbl rfl (fun g o n c e => by cases e; exact hne g o rfl)
    have hpt' : Hid (Calls Tryz.prog 128 #[.agg #[.string a.t, .slice am (bodyL a).length cm, .slice (some ⟨Pb, 0, none⟩) (bodyL a).length (bodyL a).length]] W fun e w' => (∃ v, e = .returned v) ∧ Turns (fun k => k = Pb) W w' ∧ Hy.Blk w' Pb (bcells (pdOf a)) 4) := by
      have e : pdOf a = partL a.t (bodyL a) (List.replicate (bodyL a).length false) := by rw [hpd.out, if_pos h1]
      rw [e]; exact hpt
    have hnx : Hid (∀ w4, Turns (fun k => k = Pb) W w4 → Hy.Blk w4 Pb (bcells (pdOf a)) 4 → ∀ (v0 v1 v2 v3 v4 v5 v7 v8 v9 v10 v11 v12 v13 v14 v15 v16 v17 v18 v19 v20 v21 v22 v23 v24 v25 v26 v27 v28 v29 v30 v31 v32 v33 v34 v35 v36 v37 v38 v39 v40 v41 v42 v43 v44 v45 v46 v47 v48 v49 v50 v51 v52 v53 v54 v55 : Value), rest9b.wp Tryz.prog (bodyPostM Fence.wide 0 Tryz.prog Tryz.f99 R) (fr9 v0 v1 v2 v3 v4 v5 (.pointer (some ⟨Bx, 0, none⟩)) v7 v8 v9 v10 v11 v12 v13 v14 v15 v16 v17 v18 v19 v20 v21 v22 v23 v24 v25 v26 v27 v28 v29 v30 v31 v32 v33 v34 v35 v36 v37 v38 v39 v40 v41 v42 v43 v44 v45 v46 v47 v48 v49 v50 v51 v52 v53 v54 v55) w4) := fun w4 ht hbl4 v0 v1 v2 v3 v4 v5 v7 v8 v9 v10 v11 v12 v13 v14 v15 v16 v17 v18 v19 v20 v21 v22 v23 v24 v25 v26 v27 v28 v29 v30 v31 v32 v33 v34 v35 v36 v37 v38 v39 v40 v41 v42 v43 v44 v45 v46 v47 v48 v49 v50 v51 v52 v53 v54 v55 => by
      refine items_b R ⟨a.t, .slice am (bodyL a).length cm, .slice (some ⟨Pb, 0, none⟩) (bodyL a).length (bodyL a).length, bodyL a, pdOf a⟩ Bx w w4 (hb.trans (ht.below hb.size (fun k hk => by omega))) ((ht.block _ (Array.getElem?_eq_some_iff.1 hbx).1 (fun h => hPx h.symm)).trans hbx) ⟨rec_turns hms ht (fun g o n c e => by cases e; exact hne g o rfl), bools_of hbl4 (pdOf_len a).symm (Nat.le_refl _), pdOf_len a, bodyL_few hG, bodyL_fit hG⟩ (fun W' v h1 h2 h3 => hE W' v ?_ h2 h3)
      rw [hio.out]; exact h1
    clear hpt hA0 hE hms hbl
    have hbxH : Hid (W.heap[Bx]? = some (.cells #[.string a.t, .slice am (bodyL a).length cm, .slice (some ⟨Pb, 0, none⟩) (bodyL a).length (bodyL a).length] 171 (0, 0))) := hbx
    clear hbx
    go_wp2_with (first | (refine wpList_load_row rfl 171 _ rfl Bx rfl 171 _ (0, 0) _ hbxH.out Tryz.underlying171 rfl (by show _ = some 3; kernel_rfl) ?_) | (go_at_call 128; refine hpt'.out.mono ?_; rintro e w4 ⟨⟨v, rfl⟩, ht4, hb4⟩))
    exact hnx.out _ ht4 hb4 _ _ _ _ _ _ _ _ _ _ _ _ _ _ _ _ _ _ _ _ _ _ _ _ _ _ _ _ _ _ _ _ _ _ _ _ _ _ _ _ _ _ _ _ _ _ _ _ _ _ _ _ _ _ _
  · have e : pdOf a = List.replicate (bodyL a).length false := by rw [hpd.out, if_neg h1]
    have q1 : (a.p.p12 == 1) = false := by simpa using h1
    have hnx : Hid (∀ (v0 v1 v2 v3 v4 v5 v7 v8 v9 v10 v11 v12 v13 v14 v15 v16 v17 v18 v19 v20 v21 v22 v23 v24 v25 v26 v27 v28 v29 v30 v31 v32 v33 v34 v35 v36 v37 v38 v39 v40 v41 v42 v43 v44 v45 v46 v47 v48 v49 v50 v51 v52 v53 v54 v55 : Value), rest9b.wp Tryz.prog (bodyPostM Fence.wide 0 Tryz.prog Tryz.f99 R) (fr9 v0 v1 v2 v3 v4 v5 (.pointer (some ⟨Bx, 0, none⟩)) v7 v8 v9 v10 v11 v12 v13 v14 v15 v16 v17 v18 v19 v20 v21 v22 v23 v24 v25 v26 v27 v28 v29 v30 v31 v32 v33 v34 v35 v36 v37 v38 v39 v40 v41 v42 v43 v44 v45 v46 v47 v48 v49 v50 v51 v52 v53 v54 v55) W) := fun v0 v1 v2 v3 v4 v5 v7 v8 v9 v10 v11 v12 v13 v14 v15 v16 v17 v18 v19 v20 v21 v22 v23 v24 v25 v26 v27 v28 v29 v30 v31 v32 v33 v34 v35 v36 v37 v38 v39 v40 v41 v42 v43 v44 v45 v46 v47 v48 v49 v50 v51 v52 v53 v54 v55 => by
      refine items_b R ⟨a.t, .slice am (bodyL a).length cm, .slice (some ⟨Pb, 0, none⟩) (bodyL a).length (bodyL a).length, bodyL a, List.replicate (bodyL a).length false⟩ Bx w W hb hbx hA0 (fun W' v h1 h2 h3 => hE W' v ?_ h2 h3)
      rw [hio.out, e]; exact h1
    clear hA0 hE hms hbl hbx e
    go_wp2_with fail
    exact hnx.out _ _ _ _ _ _ _ _ _ _ _ _ _ _ _ _ _ _ _ _ _ _ _ _ _ _ _ _ _ _ _ _ _ _ _ _ _ _ _ _ _ _ _ _ _ _ _ _ _ _ _ _ _ _ _

set_option maxRecDepth 100000 in
theorem items_tail (R : Ending → World → Prop) (K : Act → World → Prop) (hK : ∀ a_1 w_1, rest9.wp Tryz.prog (bodyPostM Fence.wide 0 Tryz.prog Tryz.f99 R) a_1 w_1 → K a_1 w_1) (id : Nat) (ps : String) {v0 v2 v3 v5 v6 v7 v8 v9 v10 v11 v12 v13 v14 v15 v16 v17 v18 v19 v20 v21 v22 v23 v24 v25 v26 v27 v28 v29 v30 v31 v32 v33 v34 v35 v36 v37 v38 v39 v40 v41 v42 v43 v44 v45 v46 v47 v48 v49 v50 v51 v52 v53 v54 v55 : Value} (a : Pa) (B0 cm n : Nat) (am : Option Addr) (w W : World) (hn : n = (bodyL a).length) (hb : Below w.heap.size w W) (hP : PB W B0 a) (_hB0 : w.heap.size ≤ B0)
    (hms : RecAt 6 msL W (.slice am n cm) (bodyL a)) (hlt : ∀ g o, am = some ⟨g, o, none⟩ → g < W.heap.size) (htb : Hy.Tab W) (hG : GoodP a)
    (hE : ∀ W' v, W'.ownsRow w.heap.size 129 8 v (itemsOf a).length ((itemsOf a).flatMap itL) → FillI W' v → Below w.heap.size w W' → R (.returned (.tuple #[v, .int .i64 0])) W') :
    (Code.region id (ops9_6 ps) true).wp Tryz.prog (Exit.then K (bodyPostM Fence.wide 0 Tryz.prog Tryz.f99 R)) (fr9 v0 (.pointer (some ⟨B0, 0, none⟩)) v2 v3 (.slice am n cm) v5 v6 v7 v8 v9 v10 v11 v12 v13 v14 v15 v16 v17 v18 v19 v20 v21 v22 v23 v24 v25 v26 v27 v28 v29 v30 v31 v32 v33 v34 v35 v36 v37 v38 v39 v40 v41 v42 v43 v44 v45 v46 v47 v48 v49 v50 v51 v52 v53 v54 v55) W := by
  subst hn
  refine Code.wp_mono (Q := fun e x W => e = .normal ∧ K x W) (fun e x W h => by obtain ⟨rfl, h⟩ := h; exact h) ?_
  refine it_r6 _ (fun _ _ _ _ _ h => by cases h.1) id ps B0 (bodyL a).length cm am a.t W ⟨hP.lt, hP.c0⟩ (bodyL_few hG) ?_
  intro Pb Bx w' hb' h1 h2 h3 hbl hbx
  refine ⟨rfl, hK _ _ ?_⟩
  have hsz := hb.size
  exact items_a R a B0 Bx Pb cm am w w' (hb.trans (hb'.mono hb.size)) (hP.below hb' hP.lt) hbx hbl (hms.below hb' (Nat.le_refl _)) (fun g o e => by have := hlt g o e; omega) (by omega) h3 (htb.below hb') hG hE
end Go.Proofs.YtbdpghjegachaaaGreatDoor
