/-
  What is proved here: the region of Masses that tells what a cluster shows.
  What is proved here: how plain regions with guards are gone through, moves and skipped operations many at once (no function of the program is named).
  What is proved here: how regions whose order is drawn are gone through, moves and skipped operations many at once (no function of the program is named).
-/
import Derived.Test.YtbdpghjegachaaaGreatDoorG6
import Derived.BigFrame
namespace Go.Proofs.YtbdpghjegachaaaGreatDoor
open Go.RowKit Go.Shelf
theorem fcC_one (f : Fc) : (fcC f).all (·.oneCell') = true := by simp [fcC, Value.oneCell']
def ops17_10 (ps : String) : Array Oper := #[{ dst := some 36, op := Op.fieldAddr 100 (Operand.tmp 11) 2, type := 0, pos := ps, after := #[], guard := none }, { dst := some 37, op := Op.load 3 (Operand.tmp 36), type := 3, pos := ps, after := #[{ on := 0, ground := Ground.data }], guard := none }, { dst := some 38, op := Op.fieldAddr 27 (Operand.tmp 1) 0, type := 0, pos := ps, after := #[], guard := none }, { dst := some 39, op := Op.load 9 (Operand.tmp 38), type := 9, pos := ps, after := #[{ on := 2, ground := Ground.data }], guard := none }, { dst := some 40, op := Op.fieldAddr 100 (Operand.tmp 11) 0, type := 0, pos := ps, after := #[], guard := none }, { dst := some 41, op := Op.load 3 (Operand.tmp 40), type := 3, pos := ps, after := #[{ on := 4, ground := Ground.data }], guard := none }, { dst := some 42, op := Op.index 9 (Operand.tmp 39) (Operand.tmp 41), type := 5, pos := ps, after := #[{ on := 3, ground := Ground.data }, { on := 5, ground := Ground.data }], guard := none }, { dst := some 43, op := Op.move (Operand.tmp 6), type := 95, pos := ps, after := #[], guard := none }, { dst := some 44, op := Op.fieldAddr 100 (Operand.tmp 11) 0, type := 0, pos := ps, after := #[], guard := none }, { dst := some 45, op := Op.load 3 (Operand.tmp 44), type := 3, pos := ps, after := #[{ on := 8, ground := Ground.data }], guard := none }, { dst := some 46, op := Op.call { callee := Callee.value (Operand.tmp 43), args := #[Operand.tmp 45], argTypes := #[3] }, type := 89, pos := ps, after := #[{ on := 7, ground := Ground.data }, { on := 9, ground := Ground.data }], guard := none }, { dst := some 47, op := Op.build 98 #[(0, Operand.tmp 37), (1, Operand.tmp 42), (2, Operand.tmp 46)], type := 98, pos := ps, after := #[{ on := 1, ground := Ground.data }, { on := 6, ground := Ground.data }, { on := 10, ground := Ground.data }], guard := none }, { dst := some 12, op := Op.alloc 98, type := 0, pos := ps, after := #[], guard := none }, { dst := none, op := Op.store 98 (Operand.tmp 12) (Operand.tmp 47), type := 0, pos := ps, after := #[{ on := 12, ground := Ground.data }, { on := 11, ground := Ground.data }, { on := 10, ground := Ground.chain }, { on := 0, ground := Ground.phase }, { on := 1, ground := Ground.phase }, { on := 2, ground := Ground.phase }, { on := 3, ground := Ground.phase }, { on := 4, ground := Ground.phase }, { on := 5, ground := Ground.phase }, { on := 6, ground := Ground.phase }, { on := 7, ground := Ground.phase }, { on := 8, ground := Ground.phase }, { on := 9, ground := Ground.phase }, { on := 10, ground := Ground.phase }, { on := 11, ground := Ground.phase }, { on := 12, ground := Ground.phase }], guard := none }]

set_option maxRecDepth 100000 in
set_option maxHeartbeats 2000000 in
theorem mass_r10 (Q : Exit → Act → World → Prop) (hQ : ∀ c x (n : Nat) v w, Q (.panic c) (x.put (some n) v) w → Q (.panic c) x w) (id : Nat) (ps : String) {v0 v2 v3 v4 v5 v7 v8 v9 v10 v12 v13 v14 v15 v16 v17 v18 v19 v20 v21 v22 v23 v24 v25 v26 v27 v28 v29 v30 v31 v32 v33 v34 v35 v36 v37 v38 v39 v40 v41 v42 v43 v44 v45 v46 v47 v48 v49 v50 v51 v52 v53 v54 v55 v56 v57 v58 v59 v60 v61 v62 v63 v64 v65 v66 v67 v68 v69 v70 v71 v72 v73 v74 v75 v76 v77 : Value}
    (B C F S Bq i x : Nat) (a : Pa) (y kd yb : Int) (hx : x < a.t.size) (hyb : ((a.t[x]'hx).toNat : Int) = yb) (ht : a.t.size ≤ 4096) (hsp : spB a.sp a.t.size = true) (hi0 : i ≤ a.sp.length) (hik : offs a.sp i ≤ x) (hneB : ¬ (B = F ∨ B = S)) (hneC : ¬ (C = F ∨ C = S)) (w0 : World) (hP : PB w0 B a) (hC : CB w0 C x y kd) (hL : LkAt a F S Bq i w0)
    (hq : ∀ Nn w', w0.heap.size ≤ Nn → FB w' Nn ⟨kd, yb, szAt a x, (spAt a.sp x).t, (spAt a.sp x).k⟩ → LkAt a F S Bq (lkI a.sp x) w' → Turns (fun b => b = F ∨ b = S) w0 w' → Q .normal (fr17 v0 (.pointer (some ⟨B, 0, none⟩)) v2 v3 v4 v5 (.func (.func 88) #[] #[.pointer (some ⟨F, 0, none⟩), .pointer (some ⟨S, 0, none⟩), .pointer (some ⟨Bq, 0, none⟩)]) v7 v8 v9 v10 (.pointer (some ⟨C, 0, none⟩)) (.pointer (some ⟨Nn, 0, none⟩)) v13 v14 v15 v16 v17 v18 v19 v20 v21 v22 v23 v24 v25 v26 v27 v28 v29 v30 v31 v32 v33 v34 v35 (.pointer (some ⟨C, 2, none⟩)) (.int .i64 kd) (.pointer (some ⟨B, 0, none⟩)) (.string a.t) (.pointer (some ⟨C, 0, none⟩)) (.int .i64 (x : Nat)) (.int .u8 yb) (.func (.func 88) #[] #[.pointer (some ⟨F, 0, none⟩), .pointer (some ⟨S, 0, none⟩), .pointer (some ⟨Bq, 0, none⟩)]) (.pointer (some ⟨C, 0, none⟩)) (.int .i64 (x : Nat)) (.agg #[.int .i64 (szAt a x), .int .i64 (spAt a.sp x).t, .int .i64 (spAt a.sp x).k]) (.agg #[.int .i64 kd, .int .u8 yb, .int .i64 (szAt a x), .int .i64 (spAt a.sp x).t, .int .i64 (spAt a.sp x).k]) v48 v49 v50 v51 v52 v53 v54 v55 v56 v57 v58 v59 v60 v61 v62 v63 v64 v65 v66 v67 v68 v69 v70 v71 v72 v73 v74 v75 v76 v77) w') :
    (Code.region id (ops17_10 ps) true).wp Tryz.prog Q (fr17 v0 (.pointer (some ⟨B, 0, none⟩)) v2 v3 v4 v5 (.func (.func 88) #[] #[.pointer (some ⟨F, 0, none⟩), .pointer (some ⟨S, 0, none⟩), .pointer (some ⟨Bq, 0, none⟩)]) v7 v8 v9 v10 (.pointer (some ⟨C, 0, none⟩)) v12 v13 v14 v15 v16 v17 v18 v19 v20 v21 v22 v23 v24 v25 v26 v27 v28 v29 v30 v31 v32 v33 v34 v35 v36 v37 v38 v39 v40 v41 v42 v43 v44 v45 v46 v47 v48 v49 v50 v51 v52 v53 v54 v55 v56 v57 v58 v59 v60 v61 v62 v63 v64 v65 v66 v67 v68 v69 v70 v71 v72 v73 v74 v75 v76 v77) w0 := by
  refine wp_region_held (S := fun w => PB w B a ∧ CB w C x y kd) (by kernel_rfl) ?_
  change wpAnyH _ _ _ _ _ 14 _ _ (World.drew w0)
  have C0 : PB w0.drew B a ∧ CB w0.drew C x y kd := ⟨hP.below (below_drew w0) hP.lt, hC.below (below_drew w0) hC.lt⟩
  have T0 : Turns (fun b => b = F ∨ b = S) w0 w0.drew := Turns.drew _ _
  have hL0 : LkAt a F S Bq i w0.drew := hL.turns (Turns.drew Noth _) (fun h => h) (fun h => h) (fun h => h) (fun _ _ _ _ h => h)
  have hF1 := hL.fr.lt
  have hB1 := hP.lt
  have hC1 := hC.lt
  have hP1 := hL.pb.lt
  have hS1 : S < w0.heap.size := by obtain ⟨b, o, cap, hsv, hb, hc, n1, n2, hS, hcs⟩ := hL.sp; exact hS.lt
  have hbw : ∀ b o cap, a.sv = .slice (some ⟨b, o, none⟩) a.sp.length cap → b < w0.heap.size := by
    obtain ⟨b, o, cap, hsv, hb, hc, n1, n2, hS, hcs⟩ := hL.sp
    intro b' o' cap' e
    rw [hsv] at e
    cases e
    exact hb
  refine take_h (i := 0) (oi := { dst := some 36, op := Op.fieldAddr 100 (Operand.tmp 11) 2, type := 0, pos := ps, after := #[], guard := none }) (fuel := 13) (v := (.pointer (some ⟨C, 2, none⟩))) _ (by kernel_rfl) (by kernel_rfl) (by kernel_rfl) (by kernel_rfl) (fun c x w => hQ c x _ _ w) (by kernel_rfl) (fun w hS => by unfold fr17; go_simp) rfl C0 ?_
  refine take_h (i := 1) (oi := { dst := some 37, op := Op.load 3 (Operand.tmp 36), type := 3, pos := ps, after := #[{ on := 0, ground := Ground.data }], guard := none }) (fuel := 12) (v := (.int .i64 kd)) _ (by kernel_rfl) (by kernel_rfl) (by kernel_rfl) (by kernel_rfl) (fun c x w => hQ c x _ _ w) (by kernel_rfl) (fun w hS => by have e := hS.2.c2; unfold fr17; go_simp) rfl C0 ?_
  refine take_h (i := 2) (oi := { dst := some 38, op := Op.fieldAddr 27 (Operand.tmp 1) 0, type := 0, pos := ps, after := #[], guard := none }) (fuel := 11) (v := (.pointer (some ⟨B, 0, none⟩))) (fr17 v0 (.pointer (some ⟨B, 0, none⟩)) v2 v3 v4 v5 (.func (.func 88) #[] #[.pointer (some ⟨F, 0, none⟩), .pointer (some ⟨S, 0, none⟩), .pointer (some ⟨Bq, 0, none⟩)]) v7 v8 v9 v10 (.pointer (some ⟨C, 0, none⟩)) v12 v13 v14 v15 v16 v17 v18 v19 v20 v21 v22 v23 v24 v25 v26 v27 v28 v29 v30 v31 v32 v33 v34 v35 (.pointer (some ⟨C, 2, none⟩)) (.int .i64 kd) (.pointer (some ⟨B, 0, none⟩)) v39 v40 v41 v42 v43 v44 v45 v46 v47 v48 v49 v50 v51 v52 v53 v54 v55 v56 v57 v58 v59 v60 v61 v62 v63 v64 v65 v66 v67 v68 v69 v70 v71 v72 v73 v74 v75 v76 v77) (by kernel_rfl) (by kernel_rfl) (by kernel_rfl) (by kernel_rfl) (fun c x w => hQ c x _ _ w) (by kernel_rfl) (fun w hS => by unfold fr17; go_simp) (by kernel_rfl) C0 ?_
  refine take_h (i := 3) (oi := { dst := some 39, op := Op.load 9 (Operand.tmp 38), type := 9, pos := ps, after := #[{ on := 2, ground := Ground.data }], guard := none }) (fuel := 10) (v := (.string a.t)) _ (by kernel_rfl) (by kernel_rfl) (by kernel_rfl) (by kernel_rfl) (fun c x w => hQ c x _ _ w) (by kernel_rfl) (fun w hS => by have e := hS.1.c0; unfold fr17; go_simp) rfl C0 ?_
  refine take_h (i := 4) (oi := { dst := some 40, op := Op.fieldAddr 100 (Operand.tmp 11) 0, type := 0, pos := ps, after := #[], guard := none }) (fuel := 9) (v := (.pointer (some ⟨C, 0, none⟩))) _ (by kernel_rfl) (by kernel_rfl) (by kernel_rfl) (by kernel_rfl) (fun c x w => hQ c x _ _ w) (by kernel_rfl) (fun w hS => by unfold fr17; go_simp) rfl C0 ?_
  refine take_h (i := 5) (oi := { dst := some 41, op := Op.load 3 (Operand.tmp 40), type := 3, pos := ps, after := #[{ on := 4, ground := Ground.data }], guard := none }) (fuel := 8) (v := (.int .i64 (x : Nat))) (fr17 v0 (.pointer (some ⟨B, 0, none⟩)) v2 v3 v4 v5 (.func (.func 88) #[] #[.pointer (some ⟨F, 0, none⟩), .pointer (some ⟨S, 0, none⟩), .pointer (some ⟨Bq, 0, none⟩)]) v7 v8 v9 v10 (.pointer (some ⟨C, 0, none⟩)) v12 v13 v14 v15 v16 v17 v18 v19 v20 v21 v22 v23 v24 v25 v26 v27 v28 v29 v30 v31 v32 v33 v34 v35 (.pointer (some ⟨C, 2, none⟩)) (.int .i64 kd) (.pointer (some ⟨B, 0, none⟩)) (.string a.t) (.pointer (some ⟨C, 0, none⟩)) (.int .i64 (x : Nat)) v42 v43 v44 v45 v46 v47 v48 v49 v50 v51 v52 v53 v54 v55 v56 v57 v58 v59 v60 v61 v62 v63 v64 v65 v66 v67 v68 v69 v70 v71 v72 v73 v74 v75 v76 v77) (by kernel_rfl) (by kernel_rfl) (by kernel_rfl) (by kernel_rfl) (fun c x w => hQ c x _ _ w) (by kernel_rfl) (fun w hS => by have e := hS.2.c0; unfold fr17; go_simp) (by kernel_rfl) C0 ?_
  refine take_h (i := 6) (oi := { dst := some 42, op := Op.index 9 (Operand.tmp 39) (Operand.tmp 41), type := 5, pos := ps, after := #[{ on := 3, ground := Ground.data }, { on := 5, ground := Ground.data }], guard := none }) (fuel := 7) (v := (.int .u8 yb)) _ (by kernel_rfl) (by kernel_rfl) (by kernel_rfl) (by kernel_rfl) (fun c x w => hQ c x _ _ w) (by kernel_rfl) (fun w hS => by have h1 := hyb; have h2 : (x : Int) < a.t.size := (by omega); unfold fr17; go_simp) rfl C0 ?_
  refine take_h (i := 7) (oi := { dst := some 43, op := Op.move (Operand.tmp 6), type := 95, pos := ps, after := #[], guard := none }) (fuel := 6) (v := (.func (.func 88) #[] #[.pointer (some ⟨F, 0, none⟩), .pointer (some ⟨S, 0, none⟩), .pointer (some ⟨Bq, 0, none⟩)])) _ (by kernel_rfl) (by kernel_rfl) (by kernel_rfl) (by kernel_rfl) (fun c x w => hQ c x _ _ w) (by kernel_rfl) (fun w _ => by kernel_rfl) rfl C0 ?_
  refine take_h (i := 8) (oi := { dst := some 44, op := Op.fieldAddr 100 (Operand.tmp 11) 0, type := 0, pos := ps, after := #[], guard := none }) (fuel := 5) (v := (.pointer (some ⟨C, 0, none⟩))) (fr17 v0 (.pointer (some ⟨B, 0, none⟩)) v2 v3 v4 v5 (.func (.func 88) #[] #[.pointer (some ⟨F, 0, none⟩), .pointer (some ⟨S, 0, none⟩), .pointer (some ⟨Bq, 0, none⟩)]) v7 v8 v9 v10 (.pointer (some ⟨C, 0, none⟩)) v12 v13 v14 v15 v16 v17 v18 v19 v20 v21 v22 v23 v24 v25 v26 v27 v28 v29 v30 v31 v32 v33 v34 v35 (.pointer (some ⟨C, 2, none⟩)) (.int .i64 kd) (.pointer (some ⟨B, 0, none⟩)) (.string a.t) (.pointer (some ⟨C, 0, none⟩)) (.int .i64 (x : Nat)) (.int .u8 yb) (.func (.func 88) #[] #[.pointer (some ⟨F, 0, none⟩), .pointer (some ⟨S, 0, none⟩), .pointer (some ⟨Bq, 0, none⟩)]) (.pointer (some ⟨C, 0, none⟩)) v45 v46 v47 v48 v49 v50 v51 v52 v53 v54 v55 v56 v57 v58 v59 v60 v61 v62 v63 v64 v65 v66 v67 v68 v69 v70 v71 v72 v73 v74 v75 v76 v77) (by kernel_rfl) (by kernel_rfl) (by kernel_rfl) (by kernel_rfl) (fun c x w => hQ c x _ _ w) (by kernel_rfl) (fun w hS => by unfold fr17; go_simp) (by kernel_rfl) C0 ?_
  refine take_h (i := 9) (oi := { dst := some 45, op := Op.load 3 (Operand.tmp 44), type := 3, pos := ps, after := #[{ on := 8, ground := Ground.data }], guard := none }) (fuel := 4) (v := (.int .i64 (x : Nat))) _ (by kernel_rfl) (by kernel_rfl) (by kernel_rfl) (by kernel_rfl) (fun c x w => hQ c x _ _ w) (by kernel_rfl) (fun w hS => by have e := hS.2.c0; unfold fr17; go_simp) rfl C0 ?_
  refine two_h (i := 10) (j := 12) (oi := { dst := some 46, op := Op.call { callee := Callee.value (Operand.tmp 43), args := #[Operand.tmp 45], argTypes := #[3] }, type := 89, pos := ps, after := #[{ on := 7, ground := Ground.data }, { on := 9, ground := Ground.data }], guard := none }) (oj := { dst := some 12, op := Op.alloc 98, type := 0, pos := ps, after := #[], guard := none }) (fuel := 3) (by kernel_rfl) (by kernel_rfl) (by kernel_rfl) (by kernel_rfl) (by kernel_rfl) (fun K hK => ?_) (fun K hK => ?_)
  · skip
    unfold fr17
    go_simp
    refine (looks1_any a hsp F S Bq i x hx ht hi0 hik _ hL0).mono ?_
    rintro e w1 ⟨rfl, hL1, T1⟩
    have C1 : PB w1 B a ∧ CB w1 C x y kd := ⟨C0.1.turns T1 hneB, C0.2.turns T1 hneC⟩
    refine hK _ _ C1 (cast_h (fr17 v0 (.pointer (some ⟨B, 0, none⟩)) v2 v3 v4 v5 (.func (.func 88) #[] #[.pointer (some ⟨F, 0, none⟩), .pointer (some ⟨S, 0, none⟩), .pointer (some ⟨Bq, 0, none⟩)]) v7 v8 v9 v10 (.pointer (some ⟨C, 0, none⟩)) v12 v13 v14 v15 v16 v17 v18 v19 v20 v21 v22 v23 v24 v25 v26 v27 v28 v29 v30 v31 v32 v33 v34 v35 (.pointer (some ⟨C, 2, none⟩)) (.int .i64 kd) (.pointer (some ⟨B, 0, none⟩)) (.string a.t) (.pointer (some ⟨C, 0, none⟩)) (.int .i64 (x : Nat)) (.int .u8 yb) (.func (.func 88) #[] #[.pointer (some ⟨F, 0, none⟩), .pointer (some ⟨S, 0, none⟩), .pointer (some ⟨Bq, 0, none⟩)]) (.pointer (some ⟨C, 0, none⟩)) (.int .i64 (x : Nat)) (.agg #[.int .i64 (szAt a x), .int .i64 (spAt a.sp x).t, .int .i64 (spAt a.sp x).k]) v47 v48 v49 v50 v51 v52 v53 v54 v55 v56 v57 v58 v59 v60 v61 v62 v63 v64 v65 v66 v67 v68 v69 v70 v71 v72 v73 v74 v75 v76 v77) (by kernel_rfl) ?_)
    clear hK K
    refine take_h (i := 11) (oi := { dst := some 47, op := Op.build 98 #[(0, Operand.tmp 37), (1, Operand.tmp 42), (2, Operand.tmp 46)], type := 98, pos := ps, after := #[{ on := 1, ground := Ground.data }, { on := 6, ground := Ground.data }, { on := 10, ground := Ground.data }], guard := none }) (fuel := 2) (v := (.agg #[.int .i64 kd, .int .u8 yb, .int .i64 (szAt a x), .int .i64 (spAt a.sp x).t, .int .i64 (spAt a.sp x).k])) _ (by kernel_rfl) (by kernel_rfl) (by kernel_rfl) (by kernel_rfl) (fun c x w => hQ c x _ _ w) (by kernel_rfl) (fun w hS => by unfold fr17; go_simp) rfl C1 ?_
    refine want_h (i := 12) (oi := { dst := some 12, op := Op.alloc 98, type := 0, pos := ps, after := #[], guard := none }) (fuel := 1) (by kernel_rfl) (by kernel_rfl) (by kernel_rfl) fun K hK => ?_
    unfold fr17
    go_simp
    have hZ : (w1.alloc (.cells #[.int .i64 0, .int .u8 0, .int .i64 0, .int .i64 0, .int .i64 0] 98)).heap[w1.heap.size]? = some (.cells #[.int .i64 0, .int .u8 0, .int .i64 0, .int .i64 0, .int .i64 0] 98 (0, 0)) := World.alloc_heap_new w1 _
    have hs1 := T1.size
    have hs1' : w0.heap.size ≤ w1.heap.size := hs1
    have T2 : Turns (fun b => b = F ∨ b = S) w0 (w1.alloc (.cells #[.int .i64 0, .int .u8 0, .int .i64 0, .int .i64 0, .int .i64 0] 98)) := (T0.trans T1).trans (Turns.alloc _ _ _)
    have L2 : LkAt a F S Bq (lkI a.sp x) (w1.alloc (.cells #[.int .i64 0, .int .u8 0, .int .i64 0, .int .i64 0, .int .i64 0] 98)) := hL1.turns (Turns.alloc Noth _ _) (fun h => h) (fun h => h) (fun h => h) (fun _ _ _ _ h => h)
    have C2 : PB (w1.alloc (.cells #[.int .i64 0, .int .u8 0, .int .i64 0, .int .i64 0, .int .i64 0] 98)) B a ∧ CB (w1.alloc (.cells #[.int .i64 0, .int .u8 0, .int .i64 0, .int .i64 0, .int .i64 0] 98)) C x y kd := ⟨C1.1.turns (Turns.alloc Noth _ _) (fun h => h), C1.2.turns (Turns.alloc Noth _ _) (fun h => h)⟩
    refine hK _ _ C2 (cast_h (fr17 v0 (.pointer (some ⟨B, 0, none⟩)) v2 v3 v4 v5 (.func (.func 88) #[] #[.pointer (some ⟨F, 0, none⟩), .pointer (some ⟨S, 0, none⟩), .pointer (some ⟨Bq, 0, none⟩)]) v7 v8 v9 v10 (.pointer (some ⟨C, 0, none⟩)) (.pointer (some ⟨w1.heap.size, 0, none⟩)) v13 v14 v15 v16 v17 v18 v19 v20 v21 v22 v23 v24 v25 v26 v27 v28 v29 v30 v31 v32 v33 v34 v35 (.pointer (some ⟨C, 2, none⟩)) (.int .i64 kd) (.pointer (some ⟨B, 0, none⟩)) (.string a.t) (.pointer (some ⟨C, 0, none⟩)) (.int .i64 (x : Nat)) (.int .u8 yb) (.func (.func 88) #[] #[.pointer (some ⟨F, 0, none⟩), .pointer (some ⟨S, 0, none⟩), .pointer (some ⟨Bq, 0, none⟩)]) (.pointer (some ⟨C, 0, none⟩)) (.int .i64 (x : Nat)) (.agg #[.int .i64 (szAt a x), .int .i64 (spAt a.sp x).t, .int .i64 (spAt a.sp x).k]) (.agg #[.int .i64 kd, .int .u8 yb, .int .i64 (szAt a x), .int .i64 (spAt a.sp x).t, .int .i64 (spAt a.sp x).k]) v48 v49 v50 v51 v52 v53 v54 v55 v56 v57 v58 v59 v60 v61 v62 v63 v64 v65 v66 v67 v68 v69 v70 v71 v72 v73 v74 v75 v76 v77) (by kernel_rfl) ?_)
    clear hK K
    refine want_h (i := 13) (oi := { dst := none, op := Op.store 98 (Operand.tmp 12) (Operand.tmp 47), type := 0, pos := ps, after := #[{ on := 12, ground := Ground.data }, { on := 11, ground := Ground.data }, { on := 10, ground := Ground.chain }, { on := 0, ground := Ground.phase }, { on := 1, ground := Ground.phase }, { on := 2, ground := Ground.phase }, { on := 3, ground := Ground.phase }, { on := 4, ground := Ground.phase }, { on := 5, ground := Ground.phase }, { on := 6, ground := Ground.phase }, { on := 7, ground := Ground.phase }, { on := 8, ground := Ground.phase }, { on := 9, ground := Ground.phase }, { on := 10, ground := Ground.phase }, { on := 11, ground := Ground.phase }, { on := 12, ground := Ground.phase }], guard := none }) (fuel := 0) (by kernel_rfl) (by kernel_rfl) (by kernel_rfl) fun K hK => ?_
    refine wp_store_row 98 _ _ rfl (w1.heap.size) (fcC ⟨kd, yb, szAt a x, (spAt a.sp x).t, (spAt a.sp x).k⟩) rfl rfl 98 _ hZ (info68 _) rfl (fcC_one _) ?_
    have G9 : FB ((w1.alloc (.cells #[.int .i64 0, .int .u8 0, .int .i64 0, .int .i64 0, .int .i64 0] 98)).setRow (w1.heap.size) (fcC ⟨kd, yb, szAt a x, (spAt a.sp x).t, (spAt a.sp x).k⟩)) (w1.heap.size) ⟨kd, yb, szAt a x, (spAt a.sp x).t, (spAt a.sp x).k⟩ := ⟨setRow_heap _ _ _ _ 98 _ hZ⟩
    have T9 : Turns (fun b => b = w1.heap.size) (w1.alloc (.cells #[.int .i64 0, .int .u8 0, .int .i64 0, .int .i64 0, .int .i64 0] 98)) ((w1.alloc (.cells #[.int .i64 0, .int .u8 0, .int .i64 0, .int .i64 0, .int .i64 0] 98)).setRow (w1.heap.size) (fcC ⟨kd, yb, szAt a x, (spAt a.sp x).t, (spAt a.sp x).k⟩)) := Turns.setRow (X := fun b => b = w1.heap.size) _ (r := w1.heap.size) rfl _
    have L9 : LkAt a F S Bq (lkI a.sp x) ((w1.alloc (.cells #[.int .i64 0, .int .u8 0, .int .i64 0, .int .i64 0, .int .i64 0] 98)).setRow (w1.heap.size) (fcC ⟨kd, yb, szAt a x, (spAt a.sp x).t, (spAt a.sp x).k⟩)) := L2.turns T9 (by omega) (by omega) (by omega) (fun b o c e => by have := hbw b o c e; omega)
    have C9 : PB ((w1.alloc (.cells #[.int .i64 0, .int .u8 0, .int .i64 0, .int .i64 0, .int .i64 0] 98)).setRow (w1.heap.size) (fcC ⟨kd, yb, szAt a x, (spAt a.sp x).t, (spAt a.sp x).k⟩)) B a ∧ CB ((w1.alloc (.cells #[.int .i64 0, .int .u8 0, .int .i64 0, .int .i64 0, .int .i64 0] 98)).setRow (w1.heap.size) (fcC ⟨kd, yb, szAt a x, (spAt a.sp x).t, (spAt a.sp x).k⟩)) C x y kd := ⟨C2.1.turns T9 (by omega), C2.2.turns T9 (by omega)⟩
    have D9 : Turns (fun b => b = F ∨ b = S) w0 ((w1.alloc (.cells #[.int .i64 0, .int .u8 0, .int .i64 0, .int .i64 0, .int .i64 0] 98)).setRow (w1.heap.size) (fcC ⟨kd, yb, szAt a x, (spAt a.sp x).t, (spAt a.sp x).k⟩)) := T2.trans' T9 (fun q hq => .inr (by omega))
    refine hK _ _ C9 (cast_h (fr17 v0 (.pointer (some ⟨B, 0, none⟩)) v2 v3 v4 v5 (.func (.func 88) #[] #[.pointer (some ⟨F, 0, none⟩), .pointer (some ⟨S, 0, none⟩), .pointer (some ⟨Bq, 0, none⟩)]) v7 v8 v9 v10 (.pointer (some ⟨C, 0, none⟩)) (.pointer (some ⟨w1.heap.size, 0, none⟩)) v13 v14 v15 v16 v17 v18 v19 v20 v21 v22 v23 v24 v25 v26 v27 v28 v29 v30 v31 v32 v33 v34 v35 (.pointer (some ⟨C, 2, none⟩)) (.int .i64 kd) (.pointer (some ⟨B, 0, none⟩)) (.string a.t) (.pointer (some ⟨C, 0, none⟩)) (.int .i64 (x : Nat)) (.int .u8 yb) (.func (.func 88) #[] #[.pointer (some ⟨F, 0, none⟩), .pointer (some ⟨S, 0, none⟩), .pointer (some ⟨Bq, 0, none⟩)]) (.pointer (some ⟨C, 0, none⟩)) (.int .i64 (x : Nat)) (.agg #[.int .i64 (szAt a x), .int .i64 (spAt a.sp x).t, .int .i64 (spAt a.sp x).k]) (.agg #[.int .i64 kd, .int .u8 yb, .int .i64 (szAt a x), .int .i64 (spAt a.sp x).t, .int .i64 (spAt a.sp x).k]) v48 v49 v50 v51 v52 v53 v54 v55 v56 v57 v58 v59 v60 v61 v62 v63 v64 v65 v66 v67 v68 v69 v70 v71 v72 v73 v74 v75 v76 v77) (by kernel_rfl) ?_)
    clear hK K
    exact wpAnyH_done (by kernel_rfl) (hq _ _ hs1' G9 L9 D9) _
  · skip
    unfold fr17
    go_simp
    have hZ : (w0.drew.alloc (.cells #[.int .i64 0, .int .u8 0, .int .i64 0, .int .i64 0, .int .i64 0] 98)).heap[w0.heap.size]? = some (.cells #[.int .i64 0, .int .u8 0, .int .i64 0, .int .i64 0, .int .i64 0] 98 (0, 0)) := World.alloc_heap_new w0.drew _
    have L1 : LkAt a F S Bq i (w0.drew.alloc (.cells #[.int .i64 0, .int .u8 0, .int .i64 0, .int .i64 0, .int .i64 0] 98)) := hL0.turns (Turns.alloc Noth _ _) (fun h => h) (fun h => h) (fun h => h) (fun _ _ _ _ h => h)
    have C1 : PB (w0.drew.alloc (.cells #[.int .i64 0, .int .u8 0, .int .i64 0, .int .i64 0, .int .i64 0] 98)) B a ∧ CB (w0.drew.alloc (.cells #[.int .i64 0, .int .u8 0, .int .i64 0, .int .i64 0, .int .i64 0] 98)) C x y kd := ⟨C0.1.turns (Turns.alloc Noth _ _) (fun h => h), C0.2.turns (Turns.alloc Noth _ _) (fun h => h)⟩
    have T2 : Turns (fun b => b = F ∨ b = S) w0 (w0.drew.alloc (.cells #[.int .i64 0, .int .u8 0, .int .i64 0, .int .i64 0, .int .i64 0] 98)) := T0.trans (Turns.alloc _ _ _)
    refine hK _ _ C1 (cast_h (fr17 v0 (.pointer (some ⟨B, 0, none⟩)) v2 v3 v4 v5 (.func (.func 88) #[] #[.pointer (some ⟨F, 0, none⟩), .pointer (some ⟨S, 0, none⟩), .pointer (some ⟨Bq, 0, none⟩)]) v7 v8 v9 v10 (.pointer (some ⟨C, 0, none⟩)) (.pointer (some ⟨w0.heap.size, 0, none⟩)) v13 v14 v15 v16 v17 v18 v19 v20 v21 v22 v23 v24 v25 v26 v27 v28 v29 v30 v31 v32 v33 v34 v35 (.pointer (some ⟨C, 2, none⟩)) (.int .i64 kd) (.pointer (some ⟨B, 0, none⟩)) (.string a.t) (.pointer (some ⟨C, 0, none⟩)) (.int .i64 (x : Nat)) (.int .u8 yb) (.func (.func 88) #[] #[.pointer (some ⟨F, 0, none⟩), .pointer (some ⟨S, 0, none⟩), .pointer (some ⟨Bq, 0, none⟩)]) (.pointer (some ⟨C, 0, none⟩)) (.int .i64 (x : Nat)) v46 v47 v48 v49 v50 v51 v52 v53 v54 v55 v56 v57 v58 v59 v60 v61 v62 v63 v64 v65 v66 v67 v68 v69 v70 v71 v72 v73 v74 v75 v76 v77) (by kernel_rfl) ?_)
    clear hK K
    refine want_h (i := 10) (oi := { dst := some 46, op := Op.call { callee := Callee.value (Operand.tmp 43), args := #[Operand.tmp 45], argTypes := #[3] }, type := 89, pos := ps, after := #[{ on := 7, ground := Ground.data }, { on := 9, ground := Ground.data }], guard := none }) (fuel := 2) (by kernel_rfl) (by kernel_rfl) (by kernel_rfl) fun K hK => ?_
    unfold fr17
    go_simp
    refine (looks1_any a hsp F S Bq i x hx ht hi0 hik _ L1).mono ?_
    rintro e w1 ⟨rfl, hL1, T1⟩
    have C2 : PB w1 B a ∧ CB w1 C x y kd := ⟨C1.1.turns T1 hneB, C1.2.turns T1 hneC⟩
    have hZ1 : w1.heap[w0.heap.size]? = some (.cells #[.int .i64 0, .int .u8 0, .int .i64 0, .int .i64 0, .int .i64 0] 98 (0, 0)) := (T1.block _ (Array.getElem?_eq_some_iff.1 hZ).1 (by omega)).trans hZ
    have T3 := T2.trans T1
    refine hK _ _ C2 (cast_h (fr17 v0 (.pointer (some ⟨B, 0, none⟩)) v2 v3 v4 v5 (.func (.func 88) #[] #[.pointer (some ⟨F, 0, none⟩), .pointer (some ⟨S, 0, none⟩), .pointer (some ⟨Bq, 0, none⟩)]) v7 v8 v9 v10 (.pointer (some ⟨C, 0, none⟩)) (.pointer (some ⟨w0.heap.size, 0, none⟩)) v13 v14 v15 v16 v17 v18 v19 v20 v21 v22 v23 v24 v25 v26 v27 v28 v29 v30 v31 v32 v33 v34 v35 (.pointer (some ⟨C, 2, none⟩)) (.int .i64 kd) (.pointer (some ⟨B, 0, none⟩)) (.string a.t) (.pointer (some ⟨C, 0, none⟩)) (.int .i64 (x : Nat)) (.int .u8 yb) (.func (.func 88) #[] #[.pointer (some ⟨F, 0, none⟩), .pointer (some ⟨S, 0, none⟩), .pointer (some ⟨Bq, 0, none⟩)]) (.pointer (some ⟨C, 0, none⟩)) (.int .i64 (x : Nat)) (.agg #[.int .i64 (szAt a x), .int .i64 (spAt a.sp x).t, .int .i64 (spAt a.sp x).k]) v47 v48 v49 v50 v51 v52 v53 v54 v55 v56 v57 v58 v59 v60 v61 v62 v63 v64 v65 v66 v67 v68 v69 v70 v71 v72 v73 v74 v75 v76 v77) (by kernel_rfl) ?_)
    clear hK K
    refine take_h (i := 11) (oi := { dst := some 47, op := Op.build 98 #[(0, Operand.tmp 37), (1, Operand.tmp 42), (2, Operand.tmp 46)], type := 98, pos := ps, after := #[{ on := 1, ground := Ground.data }, { on := 6, ground := Ground.data }, { on := 10, ground := Ground.data }], guard := none }) (fuel := 1) (v := (.agg #[.int .i64 kd, .int .u8 yb, .int .i64 (szAt a x), .int .i64 (spAt a.sp x).t, .int .i64 (spAt a.sp x).k])) _ (by kernel_rfl) (by kernel_rfl) (by kernel_rfl) (by kernel_rfl) (fun c x w => hQ c x _ _ w) (by kernel_rfl) (fun w hS => by unfold fr17; go_simp) rfl C2 ?_
    refine want_h (i := 13) (oi := { dst := none, op := Op.store 98 (Operand.tmp 12) (Operand.tmp 47), type := 0, pos := ps, after := #[{ on := 12, ground := Ground.data }, { on := 11, ground := Ground.data }, { on := 10, ground := Ground.chain }, { on := 0, ground := Ground.phase }, { on := 1, ground := Ground.phase }, { on := 2, ground := Ground.phase }, { on := 3, ground := Ground.phase }, { on := 4, ground := Ground.phase }, { on := 5, ground := Ground.phase }, { on := 6, ground := Ground.phase }, { on := 7, ground := Ground.phase }, { on := 8, ground := Ground.phase }, { on := 9, ground := Ground.phase }, { on := 10, ground := Ground.phase }, { on := 11, ground := Ground.phase }, { on := 12, ground := Ground.phase }], guard := none }) (fuel := 0) (by kernel_rfl) (by kernel_rfl) (by kernel_rfl) fun K hK => ?_
    refine wp_store_row 98 _ _ rfl (w0.heap.size) (fcC ⟨kd, yb, szAt a x, (spAt a.sp x).t, (spAt a.sp x).k⟩) rfl rfl 98 _ hZ1 (info68 _) rfl (fcC_one _) ?_
    have G9 : FB ((w1).setRow (w0.heap.size) (fcC ⟨kd, yb, szAt a x, (spAt a.sp x).t, (spAt a.sp x).k⟩)) (w0.heap.size) ⟨kd, yb, szAt a x, (spAt a.sp x).t, (spAt a.sp x).k⟩ := ⟨setRow_heap _ _ _ _ 98 _ hZ1⟩
    have T9 : Turns (fun b => b = w0.heap.size) (w1) ((w1).setRow (w0.heap.size) (fcC ⟨kd, yb, szAt a x, (spAt a.sp x).t, (spAt a.sp x).k⟩)) := Turns.setRow (X := fun b => b = w0.heap.size) _ (r := w0.heap.size) rfl _
    have L9 : LkAt a F S Bq (lkI a.sp x) ((w1).setRow (w0.heap.size) (fcC ⟨kd, yb, szAt a x, (spAt a.sp x).t, (spAt a.sp x).k⟩)) := hL1.turns T9 (by omega) (by omega) (by omega) (fun b o c e => by have := hbw b o c e; omega)
    have C9 : PB ((w1).setRow (w0.heap.size) (fcC ⟨kd, yb, szAt a x, (spAt a.sp x).t, (spAt a.sp x).k⟩)) B a ∧ CB ((w1).setRow (w0.heap.size) (fcC ⟨kd, yb, szAt a x, (spAt a.sp x).t, (spAt a.sp x).k⟩)) C x y kd := ⟨C2.1.turns T9 (by omega), C2.2.turns T9 (by omega)⟩
    have D9 : Turns (fun b => b = F ∨ b = S) w0 ((w1).setRow (w0.heap.size) (fcC ⟨kd, yb, szAt a x, (spAt a.sp x).t, (spAt a.sp x).k⟩)) := T3.trans' T9 (fun q hq => .inr (by omega))
    refine hK _ _ C9 (cast_h (fr17 v0 (.pointer (some ⟨B, 0, none⟩)) v2 v3 v4 v5 (.func (.func 88) #[] #[.pointer (some ⟨F, 0, none⟩), .pointer (some ⟨S, 0, none⟩), .pointer (some ⟨Bq, 0, none⟩)]) v7 v8 v9 v10 (.pointer (some ⟨C, 0, none⟩)) (.pointer (some ⟨w0.heap.size, 0, none⟩)) v13 v14 v15 v16 v17 v18 v19 v20 v21 v22 v23 v24 v25 v26 v27 v28 v29 v30 v31 v32 v33 v34 v35 (.pointer (some ⟨C, 2, none⟩)) (.int .i64 kd) (.pointer (some ⟨B, 0, none⟩)) (.string a.t) (.pointer (some ⟨C, 0, none⟩)) (.int .i64 (x : Nat)) (.int .u8 yb) (.func (.func 88) #[] #[.pointer (some ⟨F, 0, none⟩), .pointer (some ⟨S, 0, none⟩), .pointer (some ⟨Bq, 0, none⟩)]) (.pointer (some ⟨C, 0, none⟩)) (.int .i64 (x : Nat)) (.agg #[.int .i64 (szAt a x), .int .i64 (spAt a.sp x).t, .int .i64 (spAt a.sp x).k]) (.agg #[.int .i64 kd, .int .u8 yb, .int .i64 (szAt a x), .int .i64 (spAt a.sp x).t, .int .i64 (spAt a.sp x).k]) v48 v49 v50 v51 v52 v53 v54 v55 v56 v57 v58 v59 v60 v61 v62 v63 v64 v65 v66 v67 v68 v69 v70 v71 v72 v73 v74 v75 v76 v77) (by kernel_rfl) ?_)
    clear hK K
    exact wpAnyH_done (by kernel_rfl) (hq _ _ (Nat.le_refl _) G9 L9 D9) _
end Go.Proofs.YtbdpghjegachaaaGreatDoor

namespace Go.Proofs.YtbdpghjegachaaaGreatDoor
open Go.RowKit Go.Shelf

section
variable {P : Program} {ops : Array Oper} {Q : Exit → Act → World → Prop} {w : World}
theorem wl_cons {i : Nat} {oi : Oper} (hi : ops[i]? = some oi) : ops.toList.drop i = oi :: ops.toList.drop (i + 1) := by
  obtain ⟨h, e⟩ := Array.getElem?_eq_some_iff.1 hi
  rw [List.drop_eq_getElem_cons (by simpa using h)]
  simp [e]
theorem take_i (i : Nat) {oi : Oper} {v : Value} {a : Act} (a' : Act) (hi : ops[i]? = some oi) (hw : Region.wanted oi (yielded ops a.tmps) = true) (hy : (execOp a.eval oi).run P w = .ok (.value v) w) (ha : a.put oi.dst v = a')
    (h : wpList P ops Q (ops.toList.drop (i + 1)) a' w) : wpList P ops Q (ops.toList.drop i) a w := by
  rw [wl_cons hi]
  refine BigFrame.wpList_want hw fun K hK => ?_
  unfold Oper.wp
  rw [hy]
  exact hK _ _ (ha ▸ h)
theorem want_i (i : Nat) {oi : Oper} {a : Act} (hi : ops[i]? = some oi) (hw : Region.wanted oi (yielded ops a.tmps) = true)
    (h : ∀ K : Act → World → Prop, (∀ a' w', wpList P ops Q (ops.toList.drop (i + 1)) a' w' → K a' w') → oi.wp P a w K Q) : wpList P ops Q (ops.toList.drop i) a w := by
  rw [wl_cons hi]
  exact BigFrame.wpList_want hw h
theorem cast_l {l : List Oper} {a : Act} (a' : Act) (ha : a = a') (h : wpList P ops Q l a' w) : wpList P ops Q l a w := ha ▸ h
/-- What an operation that only moves values answers. -/
def pureVal (a : Act) (o : Oper) : Option Value :=
  match o.op with
  | .move x => some (a.eval x)
  | .assign x => some (a.eval x)
  | .pick c x y => match a.eval c with
    | .bool b => some (if b then a.eval x else a.eval y)
    | _ => none
  | _ => none
theorem pureVal_run {a : Act} {o : Oper} {v : Value} (h : pureVal a o = some v) : (execOp a.eval o).run P w = .ok (.value v) w := by
  unfold pureVal at h
  unfold execOp
  split at h
  · rename_i x e
    cases h
    rw [e]; rfl
  · rename_i x e
    cases h
    rw [e]; rfl
  · rename_i c x y e
    rw [e]
    split at h
    · rename_i b e2
      cases h
      simp only [e2]
      rfl
    · cases h
  · cases h
/-- The frame behind operations that are skipped or only move values. -/
def pureRun (ops : Array Oper) : List Oper → Act → Option Act
  | [], a => some a
  | o :: l, a => if Region.wanted o (yielded ops a.tmps) then (match pureVal a o with
    | some v => pureRun ops l (a.put o.dst v)
    | none => none) else pureRun ops l (a.put o.dst undef)
theorem pures_l {l2 : List Oper} {a' : Act} (hq : wpList P ops Q l2 a' w) : ∀ (l1 : List Oper) (a : Act), pureRun ops l1 a = some a' → wpList P ops Q (l1 ++ l2) a w
  | [], a, h => by cases h; exact hq
  | o :: l, a, h => by
    unfold pureRun at h
    show wpList P ops Q (o :: (l ++ l2)) a w
    split at h
    · rename_i hw
      split at h
      · rename_i v hv
        refine BigFrame.wpList_want hw fun K hK => ?_
        unfold Oper.wp
        rw [pureVal_run hv]
        exact hK _ _ (pures_l hq l _ h)
      · cases h
    · rename_i hw
      exact wpList_skip (by simpa using hw) (pures_l hq l _ h)
theorem pures_i (i n : Nat) {a : Act} (a' : Act) (h : pureRun ops ((ops.toList.drop i).take n) a = some a') (hq : wpList P ops Q (ops.toList.drop (i + n)) a' w) : wpList P ops Q (ops.toList.drop i) a w := by
  have e : ops.toList.drop i = (ops.toList.drop i).take n ++ ops.toList.drop (i + n) := by
    rw [← List.drop_drop, List.take_append_drop]
  rw [e]
  exact pures_l hq _ _ h
theorem end_i (i : Nat) {a : Act} (h : ops.size = i) (hq : Q .normal a w) : wpList P ops Q (ops.toList.drop i) a w := by
  have e : ops.toList.drop i = [] := List.drop_of_length_le (by simp [h])
  rw [e]
  exact wpList_nil hq
end
end Go.Proofs.YtbdpghjegachaaaGreatDoor

namespace Go.Proofs.YtbdpghjegachaaaGreatDoor
open Go.RowKit Go.Shelf

/-- The frame behind operations that are skipped or only move values, one after another as the list says. -/
def pureRunH (md : Region.Mode) (ops : Array Oper) : List Nat → Array Bool → Act → Option Act
  | [], _, a => some a
  | i :: is, l, a => match ops[i]? with
    | none => none
    | some o => if Region.free md ops l i && (Region.ready md ops l).contains i then (if Region.wanted o (yielded ops a.tmps) then (match pureVal a o with
        | some v => pureRunH md ops is (l.setIfInBounds i true) (a.put o.dst v)
        | none => none) else pureRunH md ops is (l.setIfInBounds i true) (a.put o.dst undef)) else none
def doneH : List Nat → Array Bool → Array Bool
  | [], l => l
  | i :: is, l => doneH is (l.setIfInBounds i true)
theorem put_any {Q : Exit → Act → World → Prop} (hQ : ∀ c x (n : Nat) v w, Q (.panic c) (x.put (some n) v) w → Q (.panic c) x w) (d : Option Tmp) (v : Value) : ∀ c x w, Q (.panic c) (x.put d v) w → Q (.panic c) x w := fun c x w h => by
  cases d with
  | none => exact h
  | some n => exact hQ c x n v w h
theorem pures_h {P : Program} {md : Region.Mode} {ops : Array Oper} {Q : Exit → Act → World → Prop} {S : World → Prop} {w : World} {fuel : Nat} (hs : Region.noSelect ops = true) (hQ : ∀ c x (n : Nat) v w, Q (.panic c) (x.put (some n) v) w → Q (.panic c) x w) (hS : S w) :
    ∀ (is : List Nat) {n : Nat} {l : Array Bool} {a : Act} (a' : Act), pureRunH md ops is l a = some a' → fuel + is.length = n → wpAnyH P md ops Q S fuel (doneH is l) a' w → wpAnyH P md ops Q S n l a w
  | [], n, l, a, a', h, hn, hq => by cases h; subst hn; exact hq
  | i :: is, n, l, a, a', h, hn, hq => by
    subst hn
    unfold pureRunH at h
    split at h
    · cases h
    · rename_i o ho
      split at h
      · rename_i hfr
        rw [Bool.and_eq_true] at hfr
        split at h
        · rename_i hw
          split at h
          · rename_i v hv
            exact wpAnyH_take ho hs hfr.1 hfr.2 (put_any hQ _ _) (Or.inl ⟨hw, fun w _ => pureVal_run hv⟩) hS (pures_h hs hQ hS is a' h rfl hq)
          · cases h
        · rename_i hw
          exact wpAnyH_take ho hs hfr.1 hfr.2 (put_any hQ _ _) (Or.inr ⟨by simpa using hw, rfl⟩) hS (pures_h hs hQ hS is a' h rfl hq)
      · cases h
end Go.Proofs.YtbdpghjegachaaaGreatDoor
