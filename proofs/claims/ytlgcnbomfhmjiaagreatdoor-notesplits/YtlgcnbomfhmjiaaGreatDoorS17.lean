/-
  What is proved here: what take and Break$1 of first do.
  What is proved here: what line of first answers of any items that may be, in any slot that may be.
-/
import Derived.Test.YtlgcnbomfhmjiaaGreatDoorS16
import Derived.Test.YtlgcnbomfhmjiaaGreatDoorS1
namespace Go.Proofs.YtlgcnbomfhmjiaaGreatDoor
open Go.RowKit Go.Shelf
set_option maxRecDepth 100000
set_option maxHeartbeats 1000000

structure DX (D : Nat) (p : Pc) (W : World) : Prop where
 row : W.heap[D]? = some (.cells (pcL p).toArray 76 (0,0))
theorem DX.lt {D : Nat} {p : Pc} {W : World} (h : DX D p W) : D < W.heap.size := (Array.getElem?_eq_some_iff.1 h.row).1
theorem DX.alloc {D : Nat} {p : Pc} {W : World} (h : DX D p W) (x : Obj) : DX D p (W.alloc x) := ⟨(Below.heap_alloc _ _ _ h.lt).trans h.row⟩
theorem load_pc {a : Act} {w : World} {D : Nat} {p : Pc} {o : Oper} {x : Operand} (h : DX D p w) (ho : o.op = .load 76 x) (hx : a.eval x = .pointer (some ⟨D,0,none⟩)) : (execOp a.eval o).run Tryz.prog w = .ok (.value (.agg (pcL p).toArray)) w := by
 have hl := run_loadVar_row (P := Tryz.prog) w D 76 76 (pcL p).toArray (0,0) _ h.row Tryz.underlying76 rfl (info41 p)
 simp [execOp,ho,hx,Instr.loadAt,Instr.sureAddr,hl]
theorem run_pbuild1 (W : World) (p : Pc) : (Instr.buildSlice 70 1 #[(0,.agg (pcL p).toArray)]).run Tryz.prog W = .ok (.slice (some ⟨W.heap.size,0,none⟩) 1 1) (W.alloc (.cells (pcL p).toArray 76)) := by
 obtain ⟨a,b,wd,hy,nt⟩ := p
 kernel_rfl
theorem wp_pbuild1 {oi : Oper} {a : Act} {w : World} {K : Act → World → Prop} {Q : Exit → Act → World → Prop} (y : Operand) (ho : oi.op = .buildSlice 70 1 #[(0,y)]) (p : Pc) (hy : a.eval y = .agg (pcL p).toArray)
  (h : K (a.put oi.dst (.slice (some ⟨w.heap.size,0,none⟩) 1 1)) (w.alloc (.cells (pcL p).toArray 76))) : oi.wp Tryz.prog a w K Q := by
 have hr := run_pbuild1 w p
 unfold Oper.wp execOp
 simp only [ho,List.map_toArray,List.map_cons,List.map_nil,hy,Sem.run_bind,Sem.run_pure,Result.andThen_ok,hr]
 exact h
theorem info41z : ∃ i z,Tryz.prog.info? 76 = some i ∧ i.zero = some z ∧ i.size = 5 ∧ i.bytes = 32 ∧ z.cells.size = 5 := by
 have h : (Tryz.prog.info? 76).map (fun i => (i.zero.map (fun z => z.cells.size),i.size,i.bytes)) = some (some 5,5,32) := by kernel_rfl
 cases hi : Tryz.prog.info? 76 with
 | none => rw [hi] at h; cases h
 | some i =>
  rw [hi] at h
  simp only [Option.map_some,Option.some.injEq,Prod.mk.injEq] at h
  obtain ⟨h1,h2,h3⟩ := h
  cases hz : i.zero with
  | none => rw [hz] at h1; cases h1
  | some z => rw [hz] at h1; exact ⟨i,z,rfl,hz,h2,h3,by simpa using h1⟩
theorem pc_cells (W : World) (p : Pc) : ∀ j u,(pcL p)[j]? = some u → (W.alloc (.cells (pcL p).toArray 76)).cell? ((⟨W.heap.size,0,none⟩ : Addr).add j) = some u := fun j u hu => by
 rw [addr_add0,Lib.cell_of_heap (World.alloc_heap_new W _)]
 simpa using hu
theorem wp_papp {oi : Oper} {a : Act} {w : World} {K : Act → World → Prop} {Q : Exit → Act → World → Prop} (x y : Operand) (ho : oi.op = Op.call { callee := Callee.builtin Builtin.append,args := #[x,y],argTypes := #[70,70] }) (base : Nat) (v : Value) (qs : List Pc) (p : Pc) (hx : a.eval x = v)
  (hown : w.ownsRow base 76 5 v qs.length (qs.flatMap pcL)) (hb : base ≤ w.heap.size) (hn : qs.length ≤ 9000) (hy : a.eval y = .slice (some ⟨w.heap.size,0,none⟩) 1 1)
  (h : ∀ v' w',w'.ownsRow base 76 5 v' (qs ++ [p]).length ((qs ++ [p]).flatMap pcL) → (w.alloc (.cells (pcL p).toArray 76)).grownBy w' v.ownBlock → K (a.put oi.dst v') w') : oi.wp Tryz.prog a (w.alloc (.cells (pcL p).toArray 76)) K Q := by
 obtain ⟨i,z,hi,hz0,hz1,hz2,hz3⟩ := info41z
 obtain ⟨v',w',hrun,r1,r2,_⟩ := run_append_where (P := Tryz.prog) (w.alloc (.cells (pcL p).toArray 76)) base 70 oi.type 76 i z 5 32 Tryz.underlying70 hi hz0 hz1 hz2 hz3 (by decide) v qs.length (qs.flatMap pcL) (hown.alloc _) ⟨w.heap.size,0,none⟩ 1 1 (pcL p) rfl (pc_cells w p) (pcL_one p) (by unfold maxLen; omega) (by omega) (by simp; omega)
 have e : [p].flatMap pcL = pcL p := by simp
 have hK := h v' w' (by rw [List.length_append,List.flatMap_append,e]; exact r1) r2
 unfold Oper.wp
 simp [execOp,ho,resolve,invoke,builtin,hx,hy,hrun,Result.andThen]
 exact hK
def fr25 (v0 v1 v2 v3 v4 v5 v6 v7 v8 v9 v10 v11 v12 v13 : Value) : Act := { tmps := #[v0,v1,v2,v3,v4,v5,v6,v7,v8,v9,v10,v11,v12,v13],defers := [] }
def ops25_1_0 (ps : String) : Oper := ⟨some 4,.move (.tmp 0),279,ps,#[],none⟩
def ops25_1_1 (ps : String) : Oper := ⟨some 5,.move (.tmp 0),279,ps,#[],none⟩
def ops25_1_2 (ps : String) : Oper := ⟨some 6,.nilCheck (.tmp 5),0,ps,#[⟨1,.data⟩],none⟩
def ops25_1_3 (ps : String) : Oper := ⟨some 7,.fieldAddr 210 (.tmp 6) 0,0,ps,#[⟨2,.data⟩],none⟩
def ops25_1_4 (ps : String) : Oper := ⟨some 8,.load 70 (.tmp 7),70,ps,#[⟨3,.data⟩],none⟩
def ops25_1_5 (ps : String) : Oper := ⟨some 9,.load 76 (.tmp 3),76,ps,#[],none⟩
def ops25_1_6 (ps : String) : Oper := ⟨some 10,.buildSlice 70 1 #[(0,.tmp 9)],70,ps,#[⟨5,.data⟩],none⟩
def ops25_1_7 (ps : String) : Oper := ⟨some 11,.call ⟨.builtin .append,#[.tmp 8,.tmp 10],#[70,70]⟩,70,ps,#[⟨4,.data⟩,⟨6,.data⟩],none⟩
def ops25_1_8 (ps : String) : Oper := ⟨some 12,.nilCheck (.tmp 4),0,ps,#[⟨0,.data⟩,⟨0,.phase⟩,⟨1,.phase⟩,⟨2,.phase⟩,⟨3,.phase⟩,⟨4,.phase⟩,⟨5,.phase⟩,⟨6,.phase⟩,⟨7,.phase⟩],none⟩
def ops25_1_9 (ps : String) : Oper := ⟨some 13,.fieldAddr 210 (.tmp 12) 0,0,ps,#[⟨8,.data⟩,⟨0,.phase⟩,⟨1,.phase⟩,⟨2,.phase⟩,⟨3,.phase⟩,⟨4,.phase⟩,⟨5,.phase⟩,⟨6,.phase⟩,⟨7,.phase⟩],none⟩
def ops25_1_10 (ps : String) : Oper := ⟨none,.store 70 (.tmp 13) (.tmp 11),0,ps,#[⟨9,.data⟩,⟨7,.data⟩,⟨7,.chain⟩,⟨0,.phase⟩,⟨1,.phase⟩,⟨2,.phase⟩,⟨3,.phase⟩,⟨4,.phase⟩,⟨5,.phase⟩,⟨6,.phase⟩,⟨7,.phase⟩],none⟩
def ops25_1 (ps : String) : Array Oper := #[ops25_1_0 ps,ops25_1_1 ps,ops25_1_2 ps,ops25_1_3 ps,ops25_1_4 ps,ops25_1_5 ps,ops25_1_6 ps,ops25_1_7 ps,ops25_1_8 ps,ops25_1_9 ps,ops25_1_10 ps]

theorem tk_r1 (Q : Exit → Act → World → Prop) (hQ : ∀ c x (n : Nat) v w,Q (.panic c) (x.put (some n) v) w → Q (.panic c) x w) (id : Nat) (ps : String) {v1 v2 v4 v5 v6 v7 v8 v9 v10 v11 v12 v13 : Value} (G D base : Nat) (va : Option Addr) (vn vc : Nat) (qs : List Pc) (p : Pc) (w : World) (hS : DX D p (World.drew w))
  (hG : (World.drew w).heap[G]? = some (.cells #[.slice va vn vc] 210 (0,0))) (hrow : (World.drew w).ownsRow base 76 5 (.slice va vn vc) qs.length (qs.flatMap pcL)) (hb : base ≤ (World.drew w).heap.size) (hn : qs.length ≤ 9000) (hlow : G < base) (hDv : Value.ownBlock (.slice va vn vc) ≠ some D)
  (hq : ∀ (va' : Option Addr) (vc' : Nat) (w2 : World),w2.ownsRow base 76 5 (.slice va' (qs.length + 1) vc') (qs ++ [p]).length ((qs ++ [p]).flatMap pcL) → ((World.drew w).alloc (.cells (pcL p).toArray 76)).grownBy w2 (Value.ownBlock (.slice va vn vc)) → w2.heap[G]? = some (.cells #[.slice va vn vc] 210 (0,0)) → ∀ u4 u5 u6 u7 u8 u9 u10 u11 u12 u13,Q .normal (fr25 (.pointer (some ⟨G,0,none⟩)) v1 v2 (.pointer (some ⟨D,0,none⟩)) u4 u5 u6 u7 u8 u9 u10 u11 u12 u13) (w2.setCell ⟨G,0,none⟩ (.slice va' (qs.length + 1) vc'))) :
  (Code.region id (ops25_1 ps) true).wp Tryz.prog Q (fr25 (.pointer (some ⟨G,0,none⟩)) v1 v2 (.pointer (some ⟨D,0,none⟩)) v4 v5 v6 v7 v8 v9 v10 v11 v12 v13) w := by
 refine wp_region_held (S := DX D p) (by kernel_rfl) ?_
 change wpAnyH _ _ _ _ _ 11 _ _ (World.drew w)
 generalize World.drew w = wd at *
 have hGl : G < wd.heap.size := (Array.getElem?_eq_some_iff.1 hG).1
 have hDG : D ≠ G := fun e => by
  have h1 := hS.row
  rw [e,hG] at h1
  injection h1 with h1
  injection h1 with h1 h2
  exact absurd h2 (by decide)
 have hGv : Value.ownBlock (.slice va vn vc) ≠ some G := fun e => by have := (hrow.lt G e).1; omega
 have tail : wpAnyH Tryz.prog .any (ops25_1 ps) Q (DX D p) 4 #[true,true,true,true,true,true,true,false,false,false,false] (fr25 (.pointer (some ⟨G,0,none⟩)) v1 v2 (.pointer (some ⟨D,0,none⟩)) (.pointer (some ⟨G,0,none⟩)) (.pointer (some ⟨G,0,none⟩)) (.pointer (some ⟨G,0,none⟩)) (.pointer (some ⟨G,0,none⟩)) (.slice va vn vc) (.agg (pcL p).toArray) (.slice (some ⟨wd.heap.size,0,none⟩) 1 1) v11 v12 v13) (wd.alloc (.cells (pcL p).toArray 76)) := by
  refine want_h (i := 7) (oi := ops25_1_7 ps) (fuel := 3) (by kernel_rfl) (by kernel_rfl) (by kernel_rfl) fun K hK => ?_
  refine wp_papp (Operand.tmp 8) (Operand.tmp 10) (by unfold ops25_1_7; rfl) base (.slice va vn vc) qs p rfl hrow hb hn rfl ?_
  intro v' w2 ho hg
  have hS2 : DX D p w2 := ⟨(hg.block D (by have := hS.lt; simp; omega) (fun e => hDv e.symm)).trans (hS.alloc _).row⟩
  have hG2 : w2.heap[G]? = some (.cells #[.slice va vn vc] 210 (0,0)) := (hg.block G (by simp; omega) (fun e => hGv e.symm)).trans ((Below.heap_alloc _ _ _ hGl).trans hG)
  obtain ⟨va',vc',rfl⟩ : ∃ a c,v' = .slice a (qs.length + 1) c := by
   have e2 : (qs ++ [p]).length = qs.length + 1 := by simp
   rw [e2] at ho
   rcases ho.2 with ⟨e,e0⟩ | ⟨g',cap',cur',e,_⟩
   ·omega
   ·exact ⟨_,_,e⟩
  have hfz : w2.frozen? ⟨G,0,none⟩ = false := Boxed.frozen (show Boxed w2 G 210 _ from hG2)
  have hG3 : w2.cell? ⟨G,0,none⟩ = some (.slice va vn vc) := by rw [Lib.cell_of_heap hG2]; rfl
  refine hK _ _ hS2 (cast_h (fr25 (.pointer (some ⟨G,0,none⟩)) v1 v2 (.pointer (some ⟨D,0,none⟩)) (.pointer (some ⟨G,0,none⟩)) (.pointer (some ⟨G,0,none⟩)) (.pointer (some ⟨G,0,none⟩)) (.pointer (some ⟨G,0,none⟩)) (.slice va vn vc) (.agg (pcL p).toArray) (.slice (some ⟨wd.heap.size,0,none⟩) 1 1) (.slice va' (qs.length + 1) vc') v12 v13) (by kernel_rfl) ?_)
  clear hK K
  refine take_h (i := 8) (oi := ops25_1_8 ps) (fuel := 2) (v := (.pointer (some ⟨G,0,none⟩))) (fr25 (.pointer (some ⟨G,0,none⟩)) v1 v2 (.pointer (some ⟨D,0,none⟩)) (.pointer (some ⟨G,0,none⟩)) (.pointer (some ⟨G,0,none⟩)) (.pointer (some ⟨G,0,none⟩)) (.pointer (some ⟨G,0,none⟩)) (.slice va vn vc) (.agg (pcL p).toArray) (.slice (some ⟨wd.heap.size,0,none⟩) 1 1) (.slice va' (qs.length + 1) vc') (.pointer (some ⟨G,0,none⟩)) v13) (by kernel_rfl) (by kernel_rfl) (by kernel_rfl) (by kernel_rfl) (fun c x w => hQ c x _ _ w) (by kernel_rfl) (fun w hS => by unfold fr25 ops25_1_8; go_simp) (by kernel_rfl) hS2 ?_
  refine take_h (i := 9) (oi := ops25_1_9 ps) (fuel := 1) (v := (.pointer (some ⟨G,0,none⟩))) (fr25 (.pointer (some ⟨G,0,none⟩)) v1 v2 (.pointer (some ⟨D,0,none⟩)) (.pointer (some ⟨G,0,none⟩)) (.pointer (some ⟨G,0,none⟩)) (.pointer (some ⟨G,0,none⟩)) (.pointer (some ⟨G,0,none⟩)) (.slice va vn vc) (.agg (pcL p).toArray) (.slice (some ⟨wd.heap.size,0,none⟩) 1 1) (.slice va' (qs.length + 1) vc') (.pointer (some ⟨G,0,none⟩)) (.pointer (some ⟨G,0,none⟩))) (by kernel_rfl) (by kernel_rfl) (by kernel_rfl) (by kernel_rfl) (fun c x w => hQ c x _ _ w) (by kernel_rfl) (fun w hS => by unfold fr25 ops25_1_9; go_simp) (by kernel_rfl) hS2 ?_
  refine want_h (i := 10) (oi := ops25_1_10 ps) (fuel := 0) (by kernel_rfl) (by kernel_rfl) (by kernel_rfl) fun K hK => ?_
  unfold fr25 ops25_1_10
  go_simp
  have hS3 : DX D p (w2.setCell ⟨G,0,none⟩ (.slice va' (qs.length + 1) vc')) := ⟨(Below.heap_setCell _ _ _ D hDG).trans hS2.row⟩
  refine hK _ _ hS3 (cast_h (fr25 (.pointer (some ⟨G,0,none⟩)) v1 v2 (.pointer (some ⟨D,0,none⟩)) (.pointer (some ⟨G,0,none⟩)) (.pointer (some ⟨G,0,none⟩)) (.pointer (some ⟨G,0,none⟩)) (.pointer (some ⟨G,0,none⟩)) (.slice va vn vc) (.agg (pcL p).toArray) (.slice (some ⟨wd.heap.size,0,none⟩) 1 1) (.slice va' (qs.length + 1) vc') (.pointer (some ⟨G,0,none⟩)) (.pointer (some ⟨G,0,none⟩))) (by kernel_rfl) ?_)
  clear hK K
  exact wpAnyH_done (by kernel_rfl) (hq va' vc' w2 ho hg hG2 _ _ _ _ _ _ _ _ _ _) _
 refine take_h (i := 0) (oi := ops25_1_0 ps) (fuel := 10) (v := (.pointer (some ⟨G,0,none⟩))) (fr25 (.pointer (some ⟨G,0,none⟩)) v1 v2 (.pointer (some ⟨D,0,none⟩)) (.pointer (some ⟨G,0,none⟩)) v5 v6 v7 v8 v9 v10 v11 v12 v13) (by kernel_rfl) (by kernel_rfl) (by kernel_rfl) (by kernel_rfl) (fun c x w => hQ c x _ _ w) (by kernel_rfl) (fun w _ => by kernel_rfl) (by kernel_rfl) hS ?_
 refine take_h (i := 1) (oi := ops25_1_1 ps) (fuel := 9) (v := (.pointer (some ⟨G,0,none⟩))) (fr25 (.pointer (some ⟨G,0,none⟩)) v1 v2 (.pointer (some ⟨D,0,none⟩)) (.pointer (some ⟨G,0,none⟩)) (.pointer (some ⟨G,0,none⟩)) v6 v7 v8 v9 v10 v11 v12 v13) (by kernel_rfl) (by kernel_rfl) (by kernel_rfl) (by kernel_rfl) (fun c x w => hQ c x _ _ w) (by kernel_rfl) (fun w _ => by kernel_rfl) (by kernel_rfl) hS ?_
 refine take_h (i := 2) (oi := ops25_1_2 ps) (fuel := 8) (v := (.pointer (some ⟨G,0,none⟩))) (fr25 (.pointer (some ⟨G,0,none⟩)) v1 v2 (.pointer (some ⟨D,0,none⟩)) (.pointer (some ⟨G,0,none⟩)) (.pointer (some ⟨G,0,none⟩)) (.pointer (some ⟨G,0,none⟩)) v7 v8 v9 v10 v11 v12 v13) (by kernel_rfl) (by kernel_rfl) (by kernel_rfl) (by kernel_rfl) (fun c x w => hQ c x _ _ w) (by kernel_rfl) (fun w hS => by unfold fr25 ops25_1_2; go_simp) (by kernel_rfl) hS ?_
 refine take_h (i := 3) (oi := ops25_1_3 ps) (fuel := 7) (v := (.pointer (some ⟨G,0,none⟩))) (fr25 (.pointer (some ⟨G,0,none⟩)) v1 v2 (.pointer (some ⟨D,0,none⟩)) (.pointer (some ⟨G,0,none⟩)) (.pointer (some ⟨G,0,none⟩)) (.pointer (some ⟨G,0,none⟩)) (.pointer (some ⟨G,0,none⟩)) v8 v9 v10 v11 v12 v13) (by kernel_rfl) (by kernel_rfl) (by kernel_rfl) (by kernel_rfl) (fun c x w => hQ c x _ _ w) (by kernel_rfl) (fun w hS => by unfold fr25 ops25_1_3; go_simp) (by kernel_rfl) hS ?_
 refine take_h (i := 5) (oi := ops25_1_5 ps) (fuel := 6) (v := (.agg (pcL p).toArray)) (fr25 (.pointer (some ⟨G,0,none⟩)) v1 v2 (.pointer (some ⟨D,0,none⟩)) (.pointer (some ⟨G,0,none⟩)) (.pointer (some ⟨G,0,none⟩)) (.pointer (some ⟨G,0,none⟩)) (.pointer (some ⟨G,0,none⟩)) v8 (.agg (pcL p).toArray) v10 v11 v12 v13) (by kernel_rfl) (by kernel_rfl) (by kernel_rfl) (by kernel_rfl) (fun c x w => hQ c x _ _ w) (by kernel_rfl) (fun w hS => load_pc (x := (Operand.tmp 3)) hS (by kernel_rfl) (by kernel_rfl)) (by kernel_rfl) hS ?_
 refine two_h (i := 4) (j := 6) (oi := ops25_1_4 ps) (oj := ops25_1_6 ps) (fuel := 5) (by kernel_rfl) (by kernel_rfl) (by kernel_rfl) (by kernel_rfl) (by kernel_rfl) (fun K hK => ?_) (fun K hK => ?_)
 ·have hc : wd.cell? ⟨G,0,none⟩ = some (.slice va vn vc) := by rw [Lib.cell_of_heap hG]; rfl
  unfold fr25 ops25_1_4
  go_simp
  refine hK _ _ hS (cast_h (fr25 (.pointer (some ⟨G,0,none⟩)) v1 v2 (.pointer (some ⟨D,0,none⟩)) (.pointer (some ⟨G,0,none⟩)) (.pointer (some ⟨G,0,none⟩)) (.pointer (some ⟨G,0,none⟩)) (.pointer (some ⟨G,0,none⟩)) (.slice va vn vc) (.agg (pcL p).toArray) v10 v11 v12 v13) (by kernel_rfl) ?_)
  refine want_h (i := 6) (oi := ops25_1_6 ps) (fuel := 4) (by kernel_rfl) (by kernel_rfl) (by kernel_rfl) fun K hK => ?_
  refine wp_pbuild1 (Operand.tmp 9) (by unfold ops25_1_6; rfl) p rfl ?_
  exact hK _ _ (hS.alloc _) (cast_h (fr25 (.pointer (some ⟨G,0,none⟩)) v1 v2 (.pointer (some ⟨D,0,none⟩)) (.pointer (some ⟨G,0,none⟩)) (.pointer (some ⟨G,0,none⟩)) (.pointer (some ⟨G,0,none⟩)) (.pointer (some ⟨G,0,none⟩)) (.slice va vn vc) (.agg (pcL p).toArray) (.slice (some ⟨wd.heap.size,0,none⟩) 1 1) v11 v12 v13) (by kernel_rfl) tail)
 ·refine wp_pbuild1 (Operand.tmp 9) (by unfold ops25_1_6; rfl) p rfl ?_
  refine hK _ _ (hS.alloc _) (cast_h (fr25 (.pointer (some ⟨G,0,none⟩)) v1 v2 (.pointer (some ⟨D,0,none⟩)) (.pointer (some ⟨G,0,none⟩)) (.pointer (some ⟨G,0,none⟩)) (.pointer (some ⟨G,0,none⟩)) (.pointer (some ⟨G,0,none⟩)) v8 (.agg (pcL p).toArray) (.slice (some ⟨wd.heap.size,0,none⟩) 1 1) v11 v12 v13) (by kernel_rfl) ?_)
  refine want_h (i := 4) (oi := ops25_1_4 ps) (fuel := 4) (by kernel_rfl) (by kernel_rfl) (by kernel_rfl) fun K hK => ?_
  have hc : (wd.alloc (.cells (pcL p).toArray 76)).cell? ⟨G,0,none⟩ = some (.slice va vn vc) := by rw [Lib.cell_of_heap ((Below.heap_alloc _ _ _ hGl).trans hG)]; rfl
  unfold fr25 ops25_1_4
  go_simp
  exact hK _ _ (hS.alloc _) (cast_h (fr25 (.pointer (some ⟨G,0,none⟩)) v1 v2 (.pointer (some ⟨D,0,none⟩)) (.pointer (some ⟨G,0,none⟩)) (.pointer (some ⟨G,0,none⟩)) (.pointer (some ⟨G,0,none⟩)) (.pointer (some ⟨G,0,none⟩)) (.slice va vn vc) (.agg (pcL p).toArray) (.slice (some ⟨wd.heap.size,0,none⟩) 1 1) v11 v12 v13) (by kernel_rfl) tail)
end Go.Proofs.YtlgcnbomfhmjiaaGreatDoor

namespace Go.Proofs.YtlgcnbomfhmjiaaGreatDoor
open Go.RowKit Go.Shelf
set_option maxRecDepth 100000
set_option maxHeartbeats 8000000

theorem lnG_stop {l : List It} {a : Nat} {s : Sl} {p : Pc} : lnG l a s (l.length + 1 - (l.length + 1)) (l.length + 1) p = p := by rw [Nat.sub_self]; rfl
theorem lnG_no {l : List It} {a b : Nat} {s : Sl} {p : Pc} (hb : b ≤ l.length) (h : enB l b = false) : lnG l a s (l.length + 1 - b) b p = lnG l a s (l.length + 1 - (b + 1)) (b + 1) p := by
 rw [show l.length + 1 - b = (l.length + 1 - (b + 1)) + 1 by omega]
 conv => lhs; unfold lnG
 rw [if_neg (by rw [h]; decide)]
theorem lnG_fit {l : List It} {a b : Nat} {s : Sl} {p : Pc} (hb : b ≤ l.length) (h : enB l b = true) (hw : ¬ s.w < ntV l a b s.x) : lnG l a s (l.length + 1 - b) b p = lnG l a s (l.length + 1 - (b + 1)) (b + 1) ⟨a,b,false,hyB l b,ntV l a b s.x⟩ := by
 rw [show l.length + 1 - b = (l.length + 1 - (b + 1)) + 1 by omega]
 conv => lhs; unfold lnG
 rw [if_pos h,if_neg hw]
theorem lnG_wide {l : List It} {a b : Nat} {s : Sl} {p : Pc} (hb : b ≤ l.length) (h : enB l b = true) (hw : s.w < ntV l a b s.x) : lnG l a s (l.length + 1 - b) b p = if a < p.b then p else ⟨a,b,true,hyB l b,ntV l a b s.x⟩ := by
 rw [show l.length + 1 - b = (l.length + 1 - (b + 1)) + 1 by omega]
 conv => lhs; unfold lnG
 rw [if_pos h,if_pos hw]
theorem hyB_in {l : List It} {b : Nat} (h : b < l.length) : hyB l b = (l[b]).y := by unfold hyB; rw [decide_eq_true h,Bool.true_and,itAt_is h]
theorem hyB_out {l : List It} {b : Nat} (h : ¬ b < l.length) : hyB l b = false := by unfold hyB; rw [decide_eq_false h]; rfl

theorem line_any (v : Value) (l : List It) (A : Nat) (s : Sl) (hck : ckL l = 0) (hA : A ≤ l.length) (hs : okS s = true) (w : World) (hS : ItsAt w v l) :
  Calls Tryz.prog 207 #[v,.int .i64 A,.agg (slL s).toArray] w fun e w' => e = .returned (.agg (pcL (lnP l A s)).toArray) ∧ Below w.heap.size w w' := by
 obtain ⟨a,cap,rfl,-⟩ := hS.ex
 have h8 := ck_len hck
 have hsx := (okS_rng hs).1
 have hLg : Hid (∀ b W,Below w.heap.size w W → 0 < b → b ≤ l.length → Calls Tryz.prog 256 #[.slice a l.length cap,.int .i64 (b : Nat)] W fun e w' => e = .returned (.bool (enB l b)) ∧ Below W.heap.size W w') := fun b W hW h0 hb => flegal_any _ l b hck h0 hb W (hS.below hW (Nat.le_refl _))
 have hWd : Hid (∀ b W,Below w.heap.size w W → A ≤ b → b ≤ l.length → Calls Tryz.prog 257 #[.slice a l.length cap,.int .i64 (A : Nat),.int .i64 (b : Nat),.int .i64 s.x] W fun e w' => e = .returned (.int .i64 (ntV l A b s.x)) ∧ Below W.heap.size W w') := fun b W hW h0 hb => fwidth_any _ l A b s.x hck h0 hb hsx W (hS.below hW (Nat.le_refl _))
 have hIt : Hid (∀ b (h : b < l.length),∃ g o,a = some ⟨g,o,none⟩ ∧ ∀ W,Below w.heap.size w W → W.cell? ⟨g,o + b * 8 + 7,none⟩ = some (.bool (l[b]).y)) := fun b h => by
  obtain ⟨g,o,e,_,hc⟩ := its_at hS h
  exact ⟨g,o,e,fun W hW => (hc W hW).c7⟩
 have hz : LW w s (pc0 A) (((w.alloc (.cells (slL s).toArray 53)).alloc (.cells (pcL zpc).toArray 76)).alloc (.cells (pcL (pc0 A)).toArray 76)) := by
  have e3 := World.alloc_heap_new ((w.alloc (.cells (slL s).toArray 53)).alloc (.cells (pcL zpc).toArray 76)) (.cells (pcL (pc0 A)).toArray 76)
  have e2 := alloc2_heap w (.cells (slL s).toArray 53) (.cells (pcL zpc).toArray 76)
  have e1 := World.alloc_heap_new w (.cells (slL s).toArray 53)
  rw [World.size_alloc,World.size_alloc] at e3
  refine ⟨(below2 w _ _).alloc (by simp; omega) _,?_,?_,e3⟩
  ·rw [Below.heap_alloc _ _ _ (by simp; omega),Below.heap_alloc _ _ _ (by simp),e1]
  ·rw [Below.heap_alloc _ _ _ (by simp),e2]
 have hR : Hid (lnG l A s (l.length + 1 - (A + 1)) (A + 1) (pc0 A) = lnP l A s) := by
  show _ = lnG l A s (l.length - A) (A + 1) (pc0 A)
  rw [show l.length + 1 - (A + 1) = l.length - A by omega]
 have hA' : (A : Int) ≤ 8192 := by omega
 have hlen' : (l.length : Int) ≤ 8192 := by omega
 have hnt : Hid (∀ b,A ≤ b → b ≤ l.length → 0 ≤ ntV l A b s.x ∧ ntV l A b s.x ≤ 524288 * 8193) := fun b h1 h2 => nt_rng hck hsx.1 h1 h2
 clear hs hsx hck h8
 generalize lnP l A s = R at *
 have hzh : Hid (LW w s (pc0 A) (((w.alloc (.cells #[.int .i64 s.x,.int .i64 s.w] 53)).alloc (.cells #[.int .i64 0,.int .i64 0,.bool false,.bool false,.int .i64 0] 76)).alloc (.cells #[.int .i64 (A : Nat),.int .i64 (A : Nat),.bool false,.bool false,.int .i64 0] 76))) := hz
 clear hz hS
 show Calls Tryz.prog 207 #[.slice a l.length cap,.int .i64 (A : Nat),.agg #[.int .i64 s.x,.int .i64 s.w]] w _
 go_enter Tryz.func207,Tryz.ntmps207
 go_wp2_with fail
 generalize ((w.alloc (.cells #[.int .i64 s.x,.int .i64 s.w] 53)).alloc (.cells #[.int .i64 0,.int .i64 0,.bool false,.bool false,.int .i64 0] 76)).alloc (.cells #[.int .i64 (A : Nat),.int .i64 (A : Nat),.bool false,.bool false,.int .i64 0] 76) = wz at *
 go_loopw [8] (fun i wr => ∃ (b : Nat) (p : Pc),(A < b ∧ b ≤ l.length + 1) ∧ i = .int .i64 b ∧ LW w s p wr ∧ Hid ((p.wd = false ∧ lnG l A s (l.length + 1 - b) b p = R) ∨ (p.wd = true ∧ p = R))) (fun i _ => l.length + 1 - (intOf i).toNat)
 case atStart => exact ⟨A + 1,pc0 A,by omega,by simp,hzh,.inl ⟨rfl,hR.out⟩⟩
 case round =>
  obtain ⟨b,p,⟨hb0,hb1⟩,rfl,hL,hrest⟩ := hrel
  have cx := hL.x
  have cw := hL.w
  have cb := hL.pb
  have cwd := hL.wd
  have hLh : Hid (LW w s p wr) := hL
  have hb8 : (b : Int) ≤ 8193 := by omega
  clear hL hzh hR
  by_cases hbl : b ≤ l.length
  ·have hbl' : (b : Int) ≤ l.length := by omega
   rcases hrest with ⟨hp,hr⟩ | ⟨hp,hr⟩
   ·rw [hp] at cwd
    have hlg : Hid (Calls Tryz.prog 256 #[.slice a l.length cap,.int .i64 (b : Nat)] wr fun e w' => e = .returned (.bool (enB l b)) ∧ Below wr.heap.size wr w') := hLg.out b wr hLh.out.low (by omega) hbl
    cases he : enB l b with
    | false =>
     rw [he] at hlg
     have hr2 : Hid (lnG l A s (l.length + 1 - (b + 1)) (b + 1) p = R) := by show _ = R; rw [← lnG_no hbl he]; exact hr
     clear hr he hLg hWd hIt hnt
     go_wp2_with (go_at_call 256; refine hlg.out.mono ?_; rintro e w2 ⟨rfl,hb2⟩)
     go_roundw
     case rel => exact ⟨b + 1,p,by omega,by simp,hLh.out.next hb2,.inl ⟨hp,hr2.out⟩⟩
     case measure => simp [intOf]; omega
    | true =>
     rw [he] at hlg
     have hwd : Hid (∀ W,Below w.heap.size w W → Calls Tryz.prog 257 #[.slice a l.length cap,.int .i64 (A : Nat),.int .i64 (b : Nat),.int .i64 s.x] W fun e w' => e = .returned (.int .i64 (ntV l A b s.x)) ∧ Below W.heap.size W w') := fun W hW => hWd.out b W hW (by omega) hbl
     have hnr := hnt.out b (by omega) hbl
     have hw2 : Hid (∀ w2,Below wr.heap.size wr w2 → LW w s p w2) := fun w2 h2 => hLh.out.next h2
     by_cases hwide : s.w < ntV l A b s.x
     ·have hq := lnG_wide (p := p) hbl he hwide
      rw [hr] at hq
      by_cases hpb : A < p.b
      ·rw [if_pos hpb] at hq
       have hr : R = p := hq
       have hpb' : (A : Int) < (p.b : Nat) := by omega
       clear hq he hLg hWd hIt hnt
       generalize ntV l A b s.x = wv at *
       go_wp2_with (first | (refine wpList_load_row rfl 76 _ rfl (w.heap.size + 1 + 1) rfl 76 _ (0,0) _ h3.b7 Tryz.underlying76 rfl (info41 _) ?_) | (refine wpList_store_row rfl 76 _ _ rfl (w.heap.size + 1) (pcL p).toArray rfl rfl 76 _ h3.b6 (info41 _) rfl (pcL_all _) ?_) | (go_at_call 256; refine hlg.out.mono ?_; rintro e w2 ⟨rfl,hb2⟩; have h2 := hw2.out w2 hb2; have cx2 := h2.x) | (go_at_call 257; refine (hwd.out w2 h2.low).mono ?_; rintro e w3 ⟨rfl,hb3⟩; have h3 := h2.next hb3; have cw3 := h3.w; have cb3 := h3.pb))
       exact bodyPost_ret (results_cell_row rfl _ _ (w.heap.size + 1) 76 _ (0,0) _ rfl (setRow_heap _ _ _ _ _ _ h3.b6) Tryz.underlying76 rfl (info41 _)) rfl ⟨by first | rfl | rw [hr],h3.low.trans ((Turns.setRow (X := fun k => k = w.heap.size + 1) _ rfl _).below h3.low.size (fun k hk => by omega))⟩
      ·rw [if_neg hpb] at hq
       have hpb' : ¬ (A : Int) < (p.b : Nat) := by omega
       have hq' : Hid (R = ⟨A,b,true,hyB l b,ntV l A b s.x⟩) := hq
       clear hq he hLg hWd hnt hr
       by_cases hbn : b < l.length
       ·obtain ⟨g,o,rfl,hcell⟩ := hIt.out b hbn
        rw [hyB_in hbn] at hq'
        have hcell' : Hid (∀ W,Below w.heap.size w W → W.cell? ⟨g,o + b * 8 + 7,none⟩ = some (.bool (l[b]).y)) := hcell
        clear hcell hIt
        generalize (l[b]).y = y at *
        generalize ntV l A b s.x = wv at *
        go_wp2_with (first | (go_at_call 256; refine hlg.out.mono ?_; rintro e w2 ⟨rfl,hb2⟩; have h2 := hw2.out w2 hb2; have cx2 := h2.x) | (go_at_call 257; refine (hwd.out w2 h2.low).mono ?_; rintro e w3 ⟨rfl,hb3⟩; have h3 := h2.next hb3; have cw3 := h3.w; have cb3 := h3.pb))
        refine ln_in _ (fun _ _ _ _ _ h => h) _ _ w s A b l.length cap wv true g o y w3 h3.drew.ls (decide_eq_true (by omega)) (by omega) hcell'.out ?_
        have h4 := h3.drew.set ⟨A,b,true,y,wv⟩
        generalize (World.drew w3).setRow (w.heap.size + 1 + 1) (pcL ⟨A,b,true,y,wv⟩).toArray = w4 at *
        unfold fr40
        clear cw3 cb3 cx2 h3 h2 hb3 hb2 hlg hwd hw2 cx cw cb cwd
        go_wp2_with fail
        go_roundw
        case rel => exact ⟨b + 1,_,by omega,by simp,h4,.inr ⟨rfl,hq'.out.symm⟩⟩
        case measure => simp [intOf]; omega
       ·rw [hyB_out hbn] at hq'
        clear hIt
        generalize ntV l A b s.x = wv at *
        go_wp2_with (first | (go_at_call 256; refine hlg.out.mono ?_; rintro e w2 ⟨rfl,hb2⟩; have h2 := hw2.out w2 hb2; have cx2 := h2.x) | (go_at_call 257; refine (hwd.out w2 h2.low).mono ?_; rintro e w3 ⟨rfl,hb3⟩; have h3 := h2.next hb3; have cw3 := h3.w; have cb3 := h3.pb))
        refine ln_out _ (fun _ _ _ _ _ h => h) _ _ w s A b l.length cap wv true a w3 h3.drew.ls (decide_eq_true (by omega)) (by omega) ?_
        have h4 := h3.drew.set ⟨A,b,true,false,wv⟩
        generalize (World.drew w3).setRow (w.heap.size + 1 + 1) (pcL ⟨A,b,true,false,wv⟩).toArray = w4 at *
        unfold fr40
        clear cw3 cb3 cx2 h3 h2 hb3 hb2 hlg hwd hw2 cx cw cb cwd
        go_wp2_with fail
        go_roundw
        case rel => exact ⟨b + 1,_,by omega,by simp,h4,.inr ⟨rfl,hq'.out.symm⟩⟩
        case measure => simp [intOf]; omega
     ·have hq := lnG_fit (p := p) hbl he hwide
      rw [hr] at hq
      have hq' : Hid (R = lnG l A s (l.length + 1 - (b + 1)) (b + 1) ⟨A,b,false,hyB l b,ntV l A b s.x⟩) := hq
      clear hq he hLg hWd hnt hr
      by_cases hbn : b < l.length
      ·obtain ⟨g,o,rfl,hcell⟩ := hIt.out b hbn
       rw [hyB_in hbn] at hq'
       have hcell' : Hid (∀ W,Below w.heap.size w W → W.cell? ⟨g,o + b * 8 + 7,none⟩ = some (.bool (l[b]).y)) := hcell
       clear hcell hIt
       generalize (l[b]).y = y at *
       generalize ntV l A b s.x = wv at *
       go_wp2_with (first | (go_at_call 256; refine hlg.out.mono ?_; rintro e w2 ⟨rfl,hb2⟩; have h2 := hw2.out w2 hb2; have cx2 := h2.x) | (go_at_call 257; refine (hwd.out w2 h2.low).mono ?_; rintro e w3 ⟨rfl,hb3⟩; have h3 := h2.next hb3; have cw3 := h3.w; have cb3 := h3.pb))
       refine ln_in _ (fun _ _ _ _ _ h => h) _ _ w s A b l.length cap wv false g o y w3 h3.drew.ls (decide_eq_false (by omega)) (by omega) hcell'.out ?_
       have h4 := h3.drew.set ⟨A,b,false,y,wv⟩
       generalize (World.drew w3).setRow (w.heap.size + 1 + 1) (pcL ⟨A,b,false,y,wv⟩).toArray = w4 at *
       unfold fr40
       clear cw3 cb3 cx2 h3 h2 hb3 hb2 hlg hwd hw2 cx cw cb cwd
       go_wp2_with fail
       go_roundw
       case rel => exact ⟨b + 1,_,by omega,by simp,h4,.inl ⟨rfl,hq'.out.symm⟩⟩
       case measure => simp [intOf]; omega
      ·rw [hyB_out hbn] at hq'
       clear hIt
       generalize ntV l A b s.x = wv at *
       go_wp2_with (first | (go_at_call 256; refine hlg.out.mono ?_; rintro e w2 ⟨rfl,hb2⟩; have h2 := hw2.out w2 hb2; have cx2 := h2.x) | (go_at_call 257; refine (hwd.out w2 h2.low).mono ?_; rintro e w3 ⟨rfl,hb3⟩; have h3 := h2.next hb3; have cw3 := h3.w; have cb3 := h3.pb))
       refine ln_out _ (fun _ _ _ _ _ h => h) _ _ w s A b l.length cap wv false a w3 h3.drew.ls (decide_eq_false (by omega)) (by omega) ?_
       have h4 := h3.drew.set ⟨A,b,false,false,wv⟩
       generalize (World.drew w3).setRow (w.heap.size + 1 + 1) (pcL ⟨A,b,false,false,wv⟩).toArray = w4 at *
       unfold fr40
       clear cw3 cb3 cx2 h3 h2 hb3 hb2 hlg hwd hw2 cx cw cb cwd
       go_wp2_with fail
       go_roundw
       case rel => exact ⟨b + 1,_,by omega,by simp,h4,.inl ⟨rfl,hq'.out.symm⟩⟩
       case measure => simp [intOf]; omega
   ·rw [hp] at cwd
    replace hr : R = p := hr.symm
    clear hLg hWd hIt hnt
    go_wp2_with (first | (refine wpList_load_row rfl 76 _ rfl (w.heap.size + 1 + 1) rfl 76 _ (0,0) _ hLh.out.b7 Tryz.underlying76 rfl (info41 _) ?_) | (refine wpList_store_row rfl 76 _ _ rfl (w.heap.size + 1) (pcL p).toArray rfl rfl 76 _ hLh.out.b6 (info41 _) rfl (pcL_all _) ?_))
    exact bodyPost_ret (results_cell_row rfl _ _ (w.heap.size + 1) 76 _ (0,0) _ rfl (setRow_heap _ _ _ _ _ _ hLh.out.b6) Tryz.underlying76 rfl (info41 _)) rfl ⟨by first | rfl | rw [hr],hLh.out.low.trans ((Turns.setRow (X := fun k => k = w.heap.size + 1) _ rfl _).below hLh.out.low.size (fun k hk => by omega))⟩
  ·have hbl' : ¬ (b : Int) ≤ l.length := by omega
   have hr : R = p := by
    rcases hrest with ⟨_,hr⟩ | ⟨_,hr⟩
    ·rw [show b = l.length + 1 by omega,lnG_stop] at hr; exact hr.symm
    ·exact hr.symm
   clear hLg hWd hIt hnt hrest
   go_wp2_with (first | (refine wpList_load_row rfl 76 _ rfl (w.heap.size + 1 + 1) rfl 76 _ (0,0) _ hLh.out.b7 Tryz.underlying76 rfl (info41 _) ?_) | (refine wpList_store_row rfl 76 _ _ rfl (w.heap.size + 1) (pcL p).toArray rfl rfl 76 _ hLh.out.b6 (info41 _) rfl (pcL_all _) ?_))
   exact bodyPost_ret (results_cell_row rfl _ _ (w.heap.size + 1) 76 _ (0,0) _ rfl (setRow_heap _ _ _ _ _ _ hLh.out.b6) Tryz.underlying76 rfl (info41 _)) rfl ⟨by first | rfl | rw [hr],hLh.out.low.trans ((Turns.setRow (X := fun k => k = w.heap.size + 1) _ rfl _).below hLh.out.low.size (fun k hk => by omega))⟩
end Go.Proofs.YtlgcnbomfhmjiaaGreatDoor
