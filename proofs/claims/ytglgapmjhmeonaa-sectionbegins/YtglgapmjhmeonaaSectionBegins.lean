/-
  What is proved here: SectionBegins answers true at every input, with no condition: on which page a section begins, and which variant a page has, is told as the document says, and what is handed in stays.
-/
import Derived.Test.YtglgapmjhmeonaaWalkJ
import Derived.Test.YtglgapmjhmeonaaOpen
namespace Go.Proofs.Ytglgapmjhmeonaa
open Go.RowKit Go.Shelf
def fr4 (v0 v1 v2 v3 v4 v5 v6 v7 v8 v9 v10 v11 v12 v13 v14 v15 v16 v17 v18 v19 v20 v21 v22 v23 v24 v25 v26 v27 v28 v29 v30 v31 v32 v33 v34 v35 v36 v37 v38 v39 v40 v41 v42 v43 v44 v45 v46 v47 v48 v49 v50 v51 v52 v53 v54 v55 v56 v57 v58 v59 v60 v61 v62 v63 v64 v65 v66 v67 v68 v69 v70 v71 v72 v73 v74 v75 v76 v77 v78 v79 : Value) : Act := { tmps := #[v0, v1, v2, v3, v4, v5, v6, v7, v8, v9, v10, v11, v12, v13, v14, v15, v16, v17, v18, v19, v20, v21, v22, v23, v24, v25, v26, v27, v28, v29, v30, v31, v32, v33, v34, v35, v36, v37, v38, v39, v40, v41, v42, v43, v44, v45, v46, v47, v48, v49, v50, v51, v52, v53, v54, v55, v56, v57, v58, v59, v60, v61, v62, v63, v64, v65, v66, v67, v68, v69, v70, v71, v72, v73, v74, v75, v76, v77, v78, v79], defers := [] }
def ops4 (ps : String) : Array Oper := #[{ dst := some 29, op := Op.load 24 (Operand.tmp 3), type := 24, pos := ps, after := #[], guard := none }, { dst := some 30, op := Op.move (Operand.tmp 1), type := 3, pos := ps, after := #[], guard := none }, { dst := some 31, op := Op.call { callee := Callee.value (Operand.func 12), args := #[Operand.tmp 29, Operand.tmp 30, Operand.const (Value.int IntKind.i64 0)], argTypes := #[24, 3, 3] }, type := 27, pos := ps, after := #[{ on := 0, ground := Ground.data }, { on := 1, ground := Ground.data }], guard := none }, { dst := some 32, op := Op.load 24 (Operand.tmp 3), type := 24, pos := ps, after := #[], guard := none }, { dst := some 33, op := Op.move (Operand.tmp 1), type := 3, pos := ps, after := #[], guard := none }, { dst := some 34, op := Op.call { callee := Callee.value (Operand.func 12), args := #[Operand.tmp 32, Operand.tmp 33, Operand.const (Value.int IntKind.i64 1)], argTypes := #[24, 3, 3] }, type := 27, pos := ps, after := #[{ on := 3, ground := Ground.data }, { on := 4, ground := Ground.data }, { on := 2, ground := Ground.chain }], guard := none }, { dst := some 11, op := Op.assign (Operand.tmp 31), type := 27, pos := ps, after := #[{ on := 2, ground := Ground.data }, { on := 5, ground := Ground.chain }, { on := 0, ground := Ground.phase }, { on := 1, ground := Ground.phase }, { on := 2, ground := Ground.phase }, { on := 3, ground := Ground.textOnly Departure.lateStores }, { on := 4, ground := Ground.textOnly Departure.lateStores }, { on := 5, ground := Ground.textOnly Departure.lateStoresUnsure }], guard := none }, { dst := some 12, op := Op.assign (Operand.tmp 34), type := 27, pos := ps, after := #[{ on := 5, ground := Ground.data }, { on := 6, ground := Ground.chain }, { on := 0, ground := Ground.phase }, { on := 1, ground := Ground.phase }, { on := 2, ground := Ground.phase }, { on := 3, ground := Ground.phase }, { on := 4, ground := Ground.phase }, { on := 5, ground := Ground.phase }, { on := 6, ground := Ground.phase }], guard := none }]

set_option maxRecDepth 100000 in
set_option maxHeartbeats 1000000 in
theorem begins_region (Q : Exit → Act → World → Prop) (hQ : ∀ c x (n : Nat) v w, Q (.panic c) (x.put (some n) v) w → Q (.panic c) x w) (id : Nat) (ps : String) {v0 v2 v4 v5 v6 v7 v8 v9 v10 v11 v12 v13 v14 v15 v16 v17 v18 v19 v20 v21 v22 v23 v24 v25 v26 v27 v28 v29 v30 v31 v32 v33 v34 v35 v36 v37 v38 v39 v40 v41 v42 v43 v44 v45 v46 v47 v48 v49 v50 v51 v52 v53 v54 v55 v56 v57 v58 v59 v60 v61 v62 v63 v64 v65 v66 v67 v68 v69 v70 v71 v72 v73 v74 v75 v76 v77 v78 v79 : Value}
    (B : Nat) (s : Sec) (page : Int)
    (hp0 : ∀ w, Calls Try.prog 12 #[.agg (seC s), .int .i64 page, .int .i64 0] w fun e w' => e = .returned (.int .i64 (pageI s page 0)) ∧ Below w.heap.size w w')
    (hp1 : ∀ w, Calls Try.prog 12 #[.agg (seC s), .int .i64 page, .int .i64 1] w fun e w' => e = .returned (.int .i64 (pageI s page 1)) ∧ Below w.heap.size w w')
    (w0 : World) (hS : SB w0 B s) (hq : ∀ w', Below w0.heap.size w0 w' → Q .normal (fr4 v0 (.int .i64 page) v2 (.pointer (some ⟨B, 0, none⟩)) v4 v5 v6 v7 v8 v9 v10 (.int .i64 (pageI s page 0)) (.int .i64 (pageI s page 1)) v13 v14 v15 v16 v17 v18 v19 v20 v21 v22 v23 v24 v25 v26 v27 v28 (.agg (seC s)) (.int .i64 page) (.int .i64 (pageI s page 0)) (.agg (seC s)) (.int .i64 page) (.int .i64 (pageI s page 1)) v35 v36 v37 v38 v39 v40 v41 v42 v43 v44 v45 v46 v47 v48 v49 v50 v51 v52 v53 v54 v55 v56 v57 v58 v59 v60 v61 v62 v63 v64 v65 v66 v67 v68 v69 v70 v71 v72 v73 v74 v75 v76 v77 v78 v79) w') :
    (Code.region id (ops4 ps) true).wp Try.prog Q (fr4 v0 (.int .i64 page) v2 (.pointer (some ⟨B, 0, none⟩)) v4 v5 v6 v7 v8 v9 v10 v11 v12 v13 v14 v15 v16 v17 v18 v19 v20 v21 v22 v23 v24 v25 v26 v27 v28 v29 v30 v31 v32 v33 v34 v35 v36 v37 v38 v39 v40 v41 v42 v43 v44 v45 v46 v47 v48 v49 v50 v51 v52 v53 v54 v55 v56 v57 v58 v59 v60 v61 v62 v63 v64 v65 v66 v67 v68 v69 v70 v71 v72 v73 v74 v75 v76 v77 v78 v79) w0 := by
  refine wp_region_held (S := fun w => SB w B s) (by kernel_rfl) ?_
  change wpAnyH _ _ _ _ _ 8 _ _ (World.drew w0)
  have C0 : SB w0.drew B s := hS.below (below_drew w0) hS.lt
  refine take_h (i := 0) (oi := { dst := some 29, op := Op.load 24 (Operand.tmp 3), type := 24, pos := ps, after := #[], guard := none }) (fuel := 7) (v := (.agg (seC s))) (fr4 v0 (.int .i64 page) v2 (.pointer (some ⟨B, 0, none⟩)) v4 v5 v6 v7 v8 v9 v10 v11 v12 v13 v14 v15 v16 v17 v18 v19 v20 v21 v22 v23 v24 v25 v26 v27 v28 (.agg (seC s)) v30 v31 v32 v33 v34 v35 v36 v37 v38 v39 v40 v41 v42 v43 v44 v45 v46 v47 v48 v49 v50 v51 v52 v53 v54 v55 v56 v57 v58 v59 v60 v61 v62 v63 v64 v65 v66 v67 v68 v69 v70 v71 v72 v73 v74 v75 v76 v77 v78 v79) (by kernel_rfl) (by kernel_rfl) (by kernel_rfl) (by kernel_rfl) (fun c x w => hQ c x _ _ w) (by kernel_rfl) (fun w hS => load_sec (x := (Operand.tmp 3)) hS (by kernel_rfl) (by kernel_rfl)) (by kernel_rfl) C0 ?_
  refine take_h (i := 1) (oi := { dst := some 30, op := Op.move (Operand.tmp 1), type := 3, pos := ps, after := #[], guard := none }) (fuel := 6) (v := (.int .i64 page)) (fr4 v0 (.int .i64 page) v2 (.pointer (some ⟨B, 0, none⟩)) v4 v5 v6 v7 v8 v9 v10 v11 v12 v13 v14 v15 v16 v17 v18 v19 v20 v21 v22 v23 v24 v25 v26 v27 v28 (.agg (seC s)) (.int .i64 page) v31 v32 v33 v34 v35 v36 v37 v38 v39 v40 v41 v42 v43 v44 v45 v46 v47 v48 v49 v50 v51 v52 v53 v54 v55 v56 v57 v58 v59 v60 v61 v62 v63 v64 v65 v66 v67 v68 v69 v70 v71 v72 v73 v74 v75 v76 v77 v78 v79) (by kernel_rfl) (by kernel_rfl) (by kernel_rfl) (by kernel_rfl) (fun c x w => hQ c x _ _ w) (by kernel_rfl) (fun w _ => by kernel_rfl) (by kernel_rfl) C0 ?_
  refine take_h (i := 3) (oi := { dst := some 32, op := Op.load 24 (Operand.tmp 3), type := 24, pos := ps, after := #[], guard := none }) (fuel := 5) (v := (.agg (seC s))) (fr4 v0 (.int .i64 page) v2 (.pointer (some ⟨B, 0, none⟩)) v4 v5 v6 v7 v8 v9 v10 v11 v12 v13 v14 v15 v16 v17 v18 v19 v20 v21 v22 v23 v24 v25 v26 v27 v28 (.agg (seC s)) (.int .i64 page) v31 (.agg (seC s)) v33 v34 v35 v36 v37 v38 v39 v40 v41 v42 v43 v44 v45 v46 v47 v48 v49 v50 v51 v52 v53 v54 v55 v56 v57 v58 v59 v60 v61 v62 v63 v64 v65 v66 v67 v68 v69 v70 v71 v72 v73 v74 v75 v76 v77 v78 v79) (by kernel_rfl) (by kernel_rfl) (by kernel_rfl) (by kernel_rfl) (fun c x w => hQ c x _ _ w) (by kernel_rfl) (fun w hS => load_sec (x := (Operand.tmp 3)) hS (by kernel_rfl) (by kernel_rfl)) (by kernel_rfl) C0 ?_
  refine take_h (i := 4) (oi := { dst := some 33, op := Op.move (Operand.tmp 1), type := 3, pos := ps, after := #[], guard := none }) (fuel := 4) (v := (.int .i64 page)) (fr4 v0 (.int .i64 page) v2 (.pointer (some ⟨B, 0, none⟩)) v4 v5 v6 v7 v8 v9 v10 v11 v12 v13 v14 v15 v16 v17 v18 v19 v20 v21 v22 v23 v24 v25 v26 v27 v28 (.agg (seC s)) (.int .i64 page) v31 (.agg (seC s)) (.int .i64 page) v34 v35 v36 v37 v38 v39 v40 v41 v42 v43 v44 v45 v46 v47 v48 v49 v50 v51 v52 v53 v54 v55 v56 v57 v58 v59 v60 v61 v62 v63 v64 v65 v66 v67 v68 v69 v70 v71 v72 v73 v74 v75 v76 v77 v78 v79) (by kernel_rfl) (by kernel_rfl) (by kernel_rfl) (by kernel_rfl) (fun c x w => hQ c x _ _ w) (by kernel_rfl) (fun w _ => by kernel_rfl) (by kernel_rfl) C0 ?_
  refine want_h (i := 2) (oi := { dst := some 31, op := Op.call { callee := Callee.value (Operand.func 12), args := #[Operand.tmp 29, Operand.tmp 30, Operand.const (Value.int IntKind.i64 0)], argTypes := #[24, 3, 3] }, type := 27, pos := ps, after := #[{ on := 0, ground := Ground.data }, { on := 1, ground := Ground.data }], guard := none }) (fuel := 3) (by kernel_rfl) (by kernel_rfl) (by kernel_rfl) fun K hK => ?_
  unfold fr4
  go_simp
  refine (hp0 _).mono ?_
  rintro e w1 ⟨rfl, Bw1⟩
  have C1 := C0.below Bw1 C0.lt
  refine hK _ _ C1 (cast_h (fr4 v0 (.int .i64 page) v2 (.pointer (some ⟨B, 0, none⟩)) v4 v5 v6 v7 v8 v9 v10 v11 v12 v13 v14 v15 v16 v17 v18 v19 v20 v21 v22 v23 v24 v25 v26 v27 v28 (.agg (seC s)) (.int .i64 page) (.int .i64 (pageI s page 0)) (.agg (seC s)) (.int .i64 page) v34 v35 v36 v37 v38 v39 v40 v41 v42 v43 v44 v45 v46 v47 v48 v49 v50 v51 v52 v53 v54 v55 v56 v57 v58 v59 v60 v61 v62 v63 v64 v65 v66 v67 v68 v69 v70 v71 v72 v73 v74 v75 v76 v77 v78 v79) (by kernel_rfl) ?_)
  clear hK K
  refine want_h (i := 5) (oi := { dst := some 34, op := Op.call { callee := Callee.value (Operand.func 12), args := #[Operand.tmp 32, Operand.tmp 33, Operand.const (Value.int IntKind.i64 1)], argTypes := #[24, 3, 3] }, type := 27, pos := ps, after := #[{ on := 3, ground := Ground.data }, { on := 4, ground := Ground.data }, { on := 2, ground := Ground.chain }], guard := none }) (fuel := 2) (by kernel_rfl) (by kernel_rfl) (by kernel_rfl) fun K hK => ?_
  unfold fr4
  go_simp
  refine (hp1 _).mono ?_
  rintro e w2 ⟨rfl, Bw2⟩
  have C2 := C1.below Bw2 C1.lt
  have D1 := (below_drew w0).trans (Bw1.mono (Nat.le_refl _))
  have D2 := D1.trans (Bw2.mono D1.size)
  refine hK _ _ C2 (cast_h (fr4 v0 (.int .i64 page) v2 (.pointer (some ⟨B, 0, none⟩)) v4 v5 v6 v7 v8 v9 v10 v11 v12 v13 v14 v15 v16 v17 v18 v19 v20 v21 v22 v23 v24 v25 v26 v27 v28 (.agg (seC s)) (.int .i64 page) (.int .i64 (pageI s page 0)) (.agg (seC s)) (.int .i64 page) (.int .i64 (pageI s page 1)) v35 v36 v37 v38 v39 v40 v41 v42 v43 v44 v45 v46 v47 v48 v49 v50 v51 v52 v53 v54 v55 v56 v57 v58 v59 v60 v61 v62 v63 v64 v65 v66 v67 v68 v69 v70 v71 v72 v73 v74 v75 v76 v77 v78 v79) (by kernel_rfl) ?_)
  clear hK K
  refine take_h (i := 6) (oi := { dst := some 11, op := Op.assign (Operand.tmp 31), type := 27, pos := ps, after := #[{ on := 2, ground := Ground.data }, { on := 5, ground := Ground.chain }, { on := 0, ground := Ground.phase }, { on := 1, ground := Ground.phase }, { on := 2, ground := Ground.phase }, { on := 3, ground := Ground.textOnly Departure.lateStores }, { on := 4, ground := Ground.textOnly Departure.lateStores }, { on := 5, ground := Ground.textOnly Departure.lateStoresUnsure }], guard := none }) (fuel := 1) (v := (.int .i64 (pageI s page 0))) (fr4 v0 (.int .i64 page) v2 (.pointer (some ⟨B, 0, none⟩)) v4 v5 v6 v7 v8 v9 v10 (.int .i64 (pageI s page 0)) v12 v13 v14 v15 v16 v17 v18 v19 v20 v21 v22 v23 v24 v25 v26 v27 v28 (.agg (seC s)) (.int .i64 page) (.int .i64 (pageI s page 0)) (.agg (seC s)) (.int .i64 page) (.int .i64 (pageI s page 1)) v35 v36 v37 v38 v39 v40 v41 v42 v43 v44 v45 v46 v47 v48 v49 v50 v51 v52 v53 v54 v55 v56 v57 v58 v59 v60 v61 v62 v63 v64 v65 v66 v67 v68 v69 v70 v71 v72 v73 v74 v75 v76 v77 v78 v79) (by kernel_rfl) (by kernel_rfl) (by kernel_rfl) (by kernel_rfl) (fun c x w => hQ c x _ _ w) (by kernel_rfl) (fun w _ => by kernel_rfl) (by kernel_rfl) C2 ?_
  refine take_h (i := 7) (oi := { dst := some 12, op := Op.assign (Operand.tmp 34), type := 27, pos := ps, after := #[{ on := 5, ground := Ground.data }, { on := 6, ground := Ground.chain }, { on := 0, ground := Ground.phase }, { on := 1, ground := Ground.phase }, { on := 2, ground := Ground.phase }, { on := 3, ground := Ground.phase }, { on := 4, ground := Ground.phase }, { on := 5, ground := Ground.phase }, { on := 6, ground := Ground.phase }], guard := none }) (fuel := 0) (v := (.int .i64 (pageI s page 1))) (fr4 v0 (.int .i64 page) v2 (.pointer (some ⟨B, 0, none⟩)) v4 v5 v6 v7 v8 v9 v10 (.int .i64 (pageI s page 0)) (.int .i64 (pageI s page 1)) v13 v14 v15 v16 v17 v18 v19 v20 v21 v22 v23 v24 v25 v26 v27 v28 (.agg (seC s)) (.int .i64 page) (.int .i64 (pageI s page 0)) (.agg (seC s)) (.int .i64 page) (.int .i64 (pageI s page 1)) v35 v36 v37 v38 v39 v40 v41 v42 v43 v44 v45 v46 v47 v48 v49 v50 v51 v52 v53 v54 v55 v56 v57 v58 v59 v60 v61 v62 v63 v64 v65 v66 v67 v68 v69 v70 v71 v72 v73 v74 v75 v76 v77 v78 v79) (by kernel_rfl) (by kernel_rfl) (by kernel_rfl) (by kernel_rfl) (fun c x w => hQ c x _ _ w) (by kernel_rfl) (fun w _ => by kernel_rfl) (by kernel_rfl) C2 ?_
  exact wpAnyH_done (by kernel_rfl) (hq _ D2) _

namespace sectionBegins
open Go.ChangeShapes Go.WideShapes Go.ChangeAt Go.RowKit

set_option maxRecDepth 100000 in
set_option maxHeartbeats 2000000 in
theorem walk (s : Sec) (hf : ∀ t ∈ texts s, t.size ≤ 9223372036854775807) (page : Int) (first : Bool) (w : World) :
    Calls Try.prog 4 #[seV s, .int .i64 page, .bool first] w fun e w' => e = .returned (.bool true) ∧ Below w.heap.size w w' := by
  have hB := (Below.refl w.heap.size w).alloc (Nat.le_refl _) (Obj.cells (seC s) 24)
  have hS := SB.new w s
  have hsmall : Hid (∀ w, Calls Try.prog 8 #[.agg (seC s)] w fun e w' => e = .returned (.bool (smB s)) ∧ Below w.heap.size w w') := small_any s hf
  clear hf
  unfold seV
  go_enter Try.func4, Try.ntmps4
  go_wp2_with (refine wpList_load_row rfl 24 _ rfl w.heap.size rfl 24 _ (0, 0) _ hS.row Try.underlying24 rfl (info24 s) ?_)
  refine (hsmall.out _).mono ?_
  rintro e w1 ⟨rfl, B1⟩
  have hS1 := hS.below B1 hS.lt
  have D1 := hB.trans (B1.mono hB.size)
  cases hsm : smB s
  · go_wp2_with fail
    go_ret
    exact ⟨rfl, D1⟩
  · have hbg : Hid (∀ w, Calls Try.prog 21 #[.agg (seC s), .int .i64 page] w fun e w' => e = .returned (.tuple #[.int .i64 (beginA s page), .int .i64 (pageI s page 0)]) ∧ Below w.heap.size w w') := begin_any s hsm page
    have hvr : Hid (∀ w, Calls Try.prog 22 #[.agg (seC s), .int .i64 page, .bool first] w fun e w' => e = .returned (.tuple #[.int .i64 (variantA s page first), .int .i64 (pageI s page 1)]) ∧ Below w.heap.size w w') := variant_any s hsm page first
    have hp0 : Hid (∀ w, Calls Try.prog 12 #[.agg (seC s), .int .i64 page, .int .i64 0] w fun e w' => e = .returned (.int .i64 (pageI s page 0)) ∧ Below w.heap.size w w') := rpage_any s hsm page 0
    have hp1 : Hid (∀ w, Calls Try.prog 12 #[.agg (seC s), .int .i64 page, .int .i64 1] w fun e w' => e = .returned (.int .i64 (pageI s page 1)) ∧ Below w.heap.size w w') := rpage_any s hsm page 1
    have k0 : Hid (pageI s page 0 = 0 → 0 ≤ page ∧ page ≤ 4096 ∧ beginA s page = beginI s page) := fun h => by
      obtain ⟨_, h1, h2⟩ := may_page h
      exact ⟨h1, h2, by unfold beginA; rw [if_pos h]⟩
    have k1 : Hid (pageI s page 1 = 0 → 0 ≤ page ∧ variantA s page first = variantI s page first) := fun h => by
      obtain ⟨_, h1, h2⟩ := may_page h
      exact ⟨by omega, by unfold variantA; rw [if_pos h]⟩
    have n0 : Hid (¬ pageI s page 0 = 0 → beginA s page = 0) := fun h => by unfold beginA; rw [if_neg h]
    have n1 : Hid (¬ pageI s page 1 = 0 → variantA s page first = 0) := fun h => by unfold variantA; rw [if_neg h]
    have rb : Hid (0 ≤ page → page ≤ 4096 → ∀ w, Calls Try.prog 23 #[.agg (seC s), .int .i64 page] w fun e w' => e = .returned (.int .i64 (beginI s page)) ∧ Below w.heap.size w w') := fun h1 h2 => rbegin_any s page ⟨h1, h2⟩
    have rv : Hid (0 ≤ page → ∀ w, Calls Try.prog 24 #[.agg (seC s), .int .i64 page, .bool first] w fun e w' => e = .returned (.int .i64 (variantI s page first)) ∧ Below w.heap.size w w') := fun h1 => rvariant_any s page first h1
    clear hsm hsmall
    go_wp2_with (refine wpList_load_row rfl 24 _ rfl w.heap.size rfl 24 _ (0, 0) _ hS1.row Try.underlying24 rfl (info24 s) ?_)
    refine (hbg.out _).mono ?_
    rintro e w2 ⟨rfl, B2⟩
    have hS2 := hS1.below B2 hS1.lt
    have D2 := D1.trans (B2.mono D1.size)
    go_wp2_with (refine wpList_load_row rfl 24 _ rfl w.heap.size rfl 24 _ (0, 0) _ hS2.row Try.underlying24 rfl (info24 s) ?_)
    refine (hvr.out _).mono ?_
    rintro e w3 ⟨rfl, B3⟩
    have hS3 := hS2.below B3 hS2.lt
    have D3 := D2.trans (B3.mono D2.size)
    go_wp2_with fail
    refine begins_region _ (fun _ _ _ _ _ h => h) _ _ w.heap.size s page hp0.out hp1.out _ hS3 ?_
    intro w4 B4
    have hS4 := hS3.below B4 hS3.lt
    have D4 := D3.trans (B4.mono D3.size)
    unfold fr4
    clear hbg hvr hp0 hp1
    by_cases h1 : pageI s page 1 = 0
    · obtain ⟨p1, hv⟩ := k1.out h1
      by_cases h0 : pageI s page 0 = 0
      · obtain ⟨q1, q2, hb⟩ := k0.out h0
        have rb' : Hid (∀ w, Calls Try.prog 23 #[.agg (seC s), .int .i64 page] w fun e w' => e = .returned (.int .i64 (beginI s page)) ∧ Below w.heap.size w w') := rb.out q1 q2
        have rv' : Hid (∀ w, Calls Try.prog 24 #[.agg (seC s), .int .i64 page, .bool first] w fun e w' => e = .returned (.int .i64 (variantI s page first)) ∧ Below w.heap.size w w') := rv.out p1
        rw [h0, h1, hv, hb]
        clear h0 h1 hv hb k0 k1 n0 n1 rb rv
        go_wp2_with (refine wpList_load_want 24 _ rfl (by rfl) w.heap.size rfl 24 _ (0, 0) _ hS4.row Try.underlying24 rfl (info24 s) ?_)
        refine (rb'.out _).mono ?_
        rintro e w5 ⟨rfl, B5⟩
        have hS5 := hS4.below B5 hS4.lt
        have D5 := D4.trans (B5.mono D4.size)
        go_wp2_with (refine wpList_load_want 24 _ rfl (by rfl) w.heap.size rfl 24 _ (0, 0) _ hS5.row Try.underlying24 rfl (info24 s) ?_)
        refine (rv'.out _).mono ?_
        rintro e w6 ⟨rfl, B6⟩
        go_wp2_with fail
        go_ret
        exact ⟨by first | rfl | simp, D5.trans (B6.mono D5.size)⟩
      · have hb := n0.out h0
        have rv' : Hid (∀ w, Calls Try.prog 24 #[.agg (seC s), .int .i64 page, .bool first] w fun e w' => e = .returned (.int .i64 (variantI s page first)) ∧ Below w.heap.size w w') := rv.out p1
        rw [h1, hv, hb]
        generalize pageI s page 0 = E0 at *
        clear h1 hv hb k0 k1 n0 n1 rb rv
        go_wp2_with (refine wpList_load_want 24 _ rfl (by rfl) w.heap.size rfl 24 _ (0, 0) _ hS4.row Try.underlying24 rfl (info24 s) ?_)
        refine (rv'.out _).mono ?_
        rintro e w6 ⟨rfl, B6⟩
        go_wp2_with fail
        go_ret
        exact ⟨by first | rfl | simp, D4.trans (B6.mono D4.size)⟩
    · have hv := n1.out h1
      by_cases h0 : pageI s page 0 = 0
      · obtain ⟨q1, q2, hb⟩ := k0.out h0
        have rb' : Hid (∀ w, Calls Try.prog 23 #[.agg (seC s), .int .i64 page] w fun e w' => e = .returned (.int .i64 (beginI s page)) ∧ Below w.heap.size w w') := rb.out q1 q2
        rw [h0, hv, hb]
        generalize pageI s page 1 = E1 at *
        clear h0 hv hb k0 k1 n0 n1 rb rv
        go_wp2_with (refine wpList_load_want 24 _ rfl (by rfl) w.heap.size rfl 24 _ (0, 0) _ hS4.row Try.underlying24 rfl (info24 s) ?_)
        refine (rb'.out _).mono ?_
        rintro e w5 ⟨rfl, B5⟩
        go_wp2_with fail
        go_ret
        exact ⟨by first | rfl | simp, D4.trans (B5.mono D4.size)⟩
      · have hb := n0.out h0
        rw [hv, hb]
        generalize pageI s page 1 = E1 at *
        generalize pageI s page 0 = E0 at *
        clear hv hb k0 k1 n0 n1 rb rv
        go_wp2_with fail
        go_ret
        exact ⟨by first | rfl | simp, D4⟩

set_option maxRecDepth 100000 in
theorem lifted (os : Os) (started : os.Started) (H : Type) (enc : TypeId × Value → H) :
    ReturnsInHanded {} Try.checked os 4 .any (Rows.sectionBeginsSpec.pre6 enc Try.prog Try.f4 Rows.sectionBeginsRow.domain false) (Rows.sectionBeginsSpec.post enc Try.prog Try.f4 false true false false) := by
  refine returnsInHanded_of_change (C := Try.checked) own started (by kernel_rfl) Try.func4
    (ChangeSpec.witness6 (enc := enc) (C := Try.checked) false ⟨#[], #[.agg #[.int .i64 0, .int .i64 0, .int .i64 0, .int .i64 0, .int .i64 0, .int .i64 0, .int .i64 0, .int .i64 0, .int .i64 0, .int .i64 0, .int .i64 0, .string ⟨#[]⟩, .string ⟨#[]⟩, .string ⟨#[]⟩, .string ⟨#[]⟩, .string ⟨#[]⟩, .string ⟨#[]⟩], .int .i64 0, .bool false], []⟩ 8 (by kernel_rfl) (by kernel_rfl) (by kernel_rfl) (by kernel_rfl)) ?_
  intro W base args ds gs before hval0 hW hcnd _
  have hval : ∀ (j : Nat) t v, Try.f4.params[j]? = some t → args[j]? = some v → Value.okWide Try.prog W .any base t v := hval0
  have hW' := hW
  obtain ⟨p, q, hA0, hV, rfl, hfz, hnd⟩ := hW
  have hA : DataW.TrodAll enc Try.prog W 0 (fun _ => true) true Try.f4.params.toList args.toList ds p := hA0
  rw [Try.params4] at hA hval
  obtain ⟨v0, vs0, d0, ds0, p0, q0, hargs, rfl, rfl, h0, r0⟩ := trodAll_cons hA
  obtain ⟨v1, vs1, d1, ds1, p1, q1, rfl, rfl, rfl, h1, r1⟩ := trodAll_cons r0
  obtain ⟨v2, vs2, d2, ds2, p2, q2, rfl, rfl, rfl, h2, r2⟩ := trodAll_cons r1
  obtain ⟨rfl, rfl, rfl⟩ := trodAll_nil r2
  obtain rfl : args = #[v0, v1, v2] := by cases args; simp_all
  obtain ⟨rfl, rfl⟩ := trodVars_none hV
  have k0 := h0
  have lt0 : ∀ x ∈ p0, x.block < W.heap.size := by obtain ⟨m, hm⟩ := k0; exact DataW.trod_lt m _ _ _ hm
  obtain ⟨s, rfl, hsz⟩ := open_sec (hval 0 24 v0 rfl rfl) h0
  obtain ⟨a1, rfl, rfl, rfl, w1⟩ := open_int Try.underlying3 (hval 1 3 v1 rfl rfl) h1
  obtain ⟨a2, rfl, rfl, rfl⟩ := open_bool Try.underlying4 (hval 2 4 v2 rfl rfl) h2
  clear hA0 hval0
  refine (walk s hsz a1 a2 W).mono fun e W' ⟨he, bel⟩ => ?_
  subst he
  exact ⟨_, rfl, _, _, _, [], _, [], hW', trodAll_mk1 (shut_bool Try.underlying4 _), (trodAll_cons_mk (Below.trod laidOut (by kernel_rfl) (of_decide_eq_true (by kernel_rfl)) k0 bel lt0) (trodAll_cons_mk (shut_int Try.underlying3 w1) (trodAll_cons_mk (shut_bool Try.underlying4 _) trodAll_mk0))), rfl, bel.frame _, fun h => by cases h⟩

theorem over : Rows.sectionBeginsRow.holds Try.pinned (OpenSpec.ofChange Rows.sectionBeginsSpec) :=
  OpenClaim.holds_of_wide 4 Try.f4 rfl rfl rfl rfl rfl rfl rfl ⟨rfl, rfl, rfl, rfl, rfl⟩ rfl rfl rfl rfl rfl (by kernel_rfl) Try.func4 (by kernel_rfl)
    (of_decide_eq_true (by kernel_rfl)) (by unfold Func.isWrapper; first | (rw [if_pos (by decide +kernel)]; kernel_rfl) | (rw [if_neg (by decide +kernel)]; exact ⟨rfl, rfl⟩))
    (fun os started H enc _ => lifted os started H enc)

end sectionBegins

theorem sectionBegins_holds : Rows.SectionBeginsSaid := sectionBegins.over

end Go.Proofs.Ytglgapmjhmeonaa
