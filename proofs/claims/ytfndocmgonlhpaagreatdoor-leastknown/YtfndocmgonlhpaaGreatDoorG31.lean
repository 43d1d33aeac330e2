/-
  What is proved here: what piece of least answers.
-/
import Derived.Test.YtfndocmgonlhpaaGreatDoorG1
import Derived.Test.YtfndocmgonlhpaaGreatDoorG30
namespace Go.Proofs.YtfndocmgonlhpaaGreatDoor
open Go.RowKit Go.Shelf
set_option maxRecDepth 100000
set_option maxHeartbeats 1000000

def pcS (p q : St) (d : Int) : Pc := ⟨p.n,q.a,decide (d < (lnS p q).w),q.y,(lnS p q).w⟩
theorem pcL_len (x : Pc) : (pcL x).length = 5 := rfl
theorem pcL_one (x : Pc) : ∀ u ∈ pcL x,u.oneCell' = true := by
 intro u hu; simp [pcL] at hu; rcases hu with rfl | rfl | rfl | rfl | rfl <;> rfl
theorem info46 (p : Pc) : (Tryz.prog.info? 46).map (·.size) = some (pcL p).toArray.size := by show _ = some 5; kernel_rfl
theorem pcL_all (p : Pc) : (pcL p).toArray.all (·.oneCell') = true := all_oneCell_toArray (pcL_one p)
def pc0 : Pc := ⟨0,0,false,false,0⟩
structure PeS (ga oa : Nat) (p : St) (gb ob : Nat) (q : St) (T : Nat) (W : World) : Prop where
 p : StAt ga oa p W
 q : StAt gb ob q W
 t : ∃ z : Pc,W.heap[T]? = some (.cells (pcL z).toArray 46 (0,0))
theorem PeS.below {ga oa : Nat} {p : St} {gb ob : Nat} {q : St} {T : Nat} {W W' : World} (h : PeS ga oa p gb ob q T W) (hb : Below W.heap.size W W') : PeS ga oa p gb ob q T W' := by
 obtain ⟨y,hy⟩ := h.t
 exact ⟨h.p.below hb h.p.lt,h.q.below hb h.q.lt,y,(hb.block _ (Array.getElem?_eq_some_iff.1 hy).1).trans hy⟩
theorem PeS.set {ga oa : Nat} {p : St} {gb ob : Nat} {q : St} {T : Nat} {W : World} (h : PeS ga oa p gb ob q T W) (ha : ga ≠ T) (hb : gb ≠ T) (z : Pc) : PeS ga oa p gb ob q T (W.setRow T (pcL z).toArray) := by
 have ht := Turns.setRow (X := fun k => k = T) W rfl (pcL z).toArray
 obtain ⟨y,hy⟩ := h.t
 exact ⟨h.p.turns ht ha,h.q.turns ht hb,z,setRow_heap _ _ _ _ _ _ hy⟩
def fr37 (v0 v1 v2 v3 v4 v5 v6 v7 v8 v9 xa xb xc xd xe xf xg xh xi xj xk xl xm xn xo xp xq xr xt : Value) : Act := { tmps := #[v0,v1,v2,v3,v4,v5,v6,v7,v8,v9,xa,xb,xc,xd,xe,xf,xg,xh,xi,xj,xk,xl,xm,xn,xo,xp,xq,xr,xt],defers := [] }
def ops37_2_0 (ps : String) : Oper := ⟨some 12,.move (.tmp 0),96,ps,#[],none⟩
def ops37_2_1 (ps : String) : Oper := ⟨some 13,.nilCheck (.tmp 12),0,ps,#[⟨0,.data⟩],none⟩
def ops37_2_2 (ps : String) : Oper := ⟨some 14,.fieldAddr 91 (.tmp 13) 1,0,ps,#[⟨1,.data⟩],none⟩
def ops37_2_3 (ps : String) : Oper := ⟨some 15,.load 3 (.tmp 14),3,ps,#[⟨2,.data⟩],none⟩
def ops37_2_4 (ps : String) : Oper := ⟨some 16,.move (.tmp 1),96,ps,#[],none⟩
def ops37_2_5 (ps : String) : Oper := ⟨some 17,.nilCheck (.tmp 16),0,ps,#[⟨4,.data⟩],none⟩
def ops37_2_6 (ps : String) : Oper := ⟨some 18,.fieldAddr 91 (.tmp 17) 0,0,ps,#[⟨5,.data⟩],none⟩
def ops37_2_7 (ps : String) : Oper := ⟨some 19,.load 3 (.tmp 18),3,ps,#[⟨6,.data⟩],none⟩
def ops37_2_8 (ps : String) : Oper := ⟨some 20,.move (.tmp 7),3,ps,#[],none⟩
def ops37_2_9 (ps : String) : Oper := ⟨some 21,.move (.tmp 2),3,ps,#[],none⟩
def ops37_2_10 (ps : String) : Oper := ⟨some 22,.binOp .gtr 3 (.tmp 20) (.tmp 21) 3,4,ps,#[⟨8,.data⟩,⟨9,.data⟩],none⟩
def ops37_2_11 (ps : String) : Oper := ⟨some 23,.move (.tmp 1),96,ps,#[],none⟩
def ops37_2_12 (ps : String) : Oper := ⟨some 24,.nilCheck (.tmp 23),0,ps,#[⟨11,.data⟩],none⟩
def ops37_2_13 (ps : String) : Oper := ⟨some 25,.fieldAddr 91 (.tmp 24) 5,0,ps,#[⟨12,.data⟩],none⟩
def ops37_2_14 (ps : String) : Oper := ⟨some 26,.load 4 (.tmp 25),4,ps,#[⟨13,.data⟩],none⟩
def ops37_2_15 (ps : String) : Oper := ⟨some 27,.move (.tmp 7),3,ps,#[],none⟩
def ops37_2_16 (ps : String) : Oper := ⟨some 28,.build 46 #[(0,.tmp 15),(1,.tmp 19),(2,.tmp 22),(3,.tmp 26),(4,.tmp 27)],46,ps,#[⟨3,.data⟩,⟨7,.data⟩,⟨10,.data⟩,⟨14,.data⟩,⟨15,.data⟩],none⟩
def ops37_2_17 (ps : String) : Oper := ⟨none,.store 46 (.tmp 6) (.tmp 28),0,ps,#[⟨16,.data⟩,⟨0,.phase⟩,⟨1,.phase⟩,⟨2,.phase⟩,⟨3,.phase⟩,⟨4,.phase⟩,⟨5,.phase⟩,⟨6,.phase⟩,⟨7,.phase⟩,⟨8,.phase⟩,⟨9,.phase⟩,⟨10,.phase⟩,⟨11,.phase⟩,⟨12,.phase⟩,⟨13,.phase⟩,⟨14,.phase⟩,⟨15,.phase⟩,⟨16,.phase⟩],none⟩
def ops37_2 (ps : String) : Array Oper := #[ops37_2_0 ps,ops37_2_1 ps,ops37_2_2 ps,ops37_2_3 ps,ops37_2_4 ps,ops37_2_5 ps,ops37_2_6 ps,ops37_2_7 ps,ops37_2_8 ps,ops37_2_9 ps,ops37_2_10 ps,ops37_2_11 ps,ops37_2_12 ps,ops37_2_13 ps,ops37_2_14 ps,ops37_2_15 ps,ops37_2_16 ps,ops37_2_17 ps]

theorem pe_r2 (Q : Exit → Act → World → Prop) (hQ : ∀ c x (n : Nat) v w,Q (.panic c) (x.put (some n) v) w → Q (.panic c) x w) (id : Nat) (ps : String) {v3 v4 v5 v8 v9 xa xb xc xd xe xf xg xh xi xj xk xl xm xn xo xp xq xr xt : Value} (ga oa : Nat) (p : St) (gb ob : Nat) (q : St) (T : Nat) (d : Int) (w : World) (hS : PeS ga oa p gb ob q T (World.drew w))
  (ha : ga ≠ T) (hb : gb ≠ T)
  (hq : Q .normal (fr37 (.pointer (some ⟨ga,oa,none⟩)) (.pointer (some ⟨gb,ob,none⟩)) (.int .i64 d) v3 v4 v5 (.pointer (some ⟨T,0,none⟩)) (.int .i64 (lnS p q).w) v8 v9 xa xb (.pointer (some ⟨ga,oa,none⟩)) (.pointer (some ⟨ga,oa,none⟩)) (.pointer (some ⟨ga,oa + 1,none⟩)) (.int .i64 (p.n : Nat)) (.pointer (some ⟨gb,ob,none⟩)) (.pointer (some ⟨gb,ob,none⟩)) (.pointer (some ⟨gb,ob,none⟩)) (.int .i64 (q.a : Nat)) (.int .i64 (lnS p q).w) (.int .i64 d) (.bool (decide (d < (lnS p q).w))) (.pointer (some ⟨gb,ob,none⟩)) (.pointer (some ⟨gb,ob,none⟩)) (.pointer (some ⟨gb,ob + 9,none⟩)) (.bool q.y) (.int .i64 (lnS p q).w) (.agg (pcL (pcS p q d)).toArray)) ((World.drew w).setRow T (pcL (pcS p q d)).toArray)) :
  (Code.region id (ops37_2 ps) true).wp Tryz.prog Q (fr37 (.pointer (some ⟨ga,oa,none⟩)) (.pointer (some ⟨gb,ob,none⟩)) (.int .i64 d) v3 v4 v5 (.pointer (some ⟨T,0,none⟩)) (.int .i64 (lnS p q).w) v8 v9 xa xb xc xd xe xf xg xh xi xj xk xl xm xn xo xp xq xr xt) w := by
 refine wp_region_held (S := PeS ga oa p gb ob q T) (by kernel_rfl) ?_
 change wpAnyH _ _ _ _ _ 18 _ _ (World.drew w)
 refine take_r 0 ⟨some 12,.move (.tmp 0),96,ps,#[],none⟩ (.pointer (some ⟨ga,oa,none⟩)) hQ (fun w _ => by kernel_rfl) hS ?_
 refine take_k 1 (ops37_2_1 ps) (.pointer (some ⟨ga,oa,none⟩)) (fr37 (.pointer (some ⟨ga,oa,none⟩)) (.pointer (some ⟨gb,ob,none⟩)) (.int .i64 d) v3 v4 v5 (.pointer (some ⟨T,0,none⟩)) (.int .i64 (lnS p q).w) v8 v9 xa xb (.pointer (some ⟨ga,oa,none⟩)) (.pointer (some ⟨ga,oa,none⟩)) xe xf xg xh xi xj xk xl xm xn xo xp xq xr xt) hQ (fun w hS => by unfold fr37 ops37_2_1; go_simp) hS ?_
 refine take_r 2 ⟨some 14,.fieldAddr 91 (.tmp 13) 1,0,ps,#[⟨1,.data⟩],none⟩ (.pointer (some ⟨ga,oa + 1,none⟩)) hQ (fun w hS => by unfold fr37; go_simp) hS ?_
 refine take_k 3 (ops37_2_3 ps) (.int .i64 (p.n : Nat)) (fr37 (.pointer (some ⟨ga,oa,none⟩)) (.pointer (some ⟨gb,ob,none⟩)) (.int .i64 d) v3 v4 v5 (.pointer (some ⟨T,0,none⟩)) (.int .i64 (lnS p q).w) v8 v9 xa xb (.pointer (some ⟨ga,oa,none⟩)) (.pointer (some ⟨ga,oa,none⟩)) (.pointer (some ⟨ga,oa + 1,none⟩)) (.int .i64 (p.n : Nat)) xg xh xi xj xk xl xm xn xo xp xq xr xt) hQ (fun w hS => by have e := hS.p.c1; unfold fr37 ops37_2_3; go_simp) hS ?_
 refine take_r 4 ⟨some 16,.move (.tmp 1),96,ps,#[],none⟩ (.pointer (some ⟨gb,ob,none⟩)) hQ (fun w _ => by kernel_rfl) hS ?_
 refine take_k 5 (ops37_2_5 ps) (.pointer (some ⟨gb,ob,none⟩)) (fr37 (.pointer (some ⟨ga,oa,none⟩)) (.pointer (some ⟨gb,ob,none⟩)) (.int .i64 d) v3 v4 v5 (.pointer (some ⟨T,0,none⟩)) (.int .i64 (lnS p q).w) v8 v9 xa xb (.pointer (some ⟨ga,oa,none⟩)) (.pointer (some ⟨ga,oa,none⟩)) (.pointer (some ⟨ga,oa + 1,none⟩)) (.int .i64 (p.n : Nat)) (.pointer (some ⟨gb,ob,none⟩)) (.pointer (some ⟨gb,ob,none⟩)) xi xj xk xl xm xn xo xp xq xr xt) hQ (fun w hS => by unfold fr37 ops37_2_5; go_simp) hS ?_
 refine take_r 6 ⟨some 18,.fieldAddr 91 (.tmp 17) 0,0,ps,#[⟨5,.data⟩],none⟩ (.pointer (some ⟨gb,ob,none⟩)) hQ (fun w hS => by unfold fr37; go_simp) hS ?_
 refine take_k 7 (ops37_2_7 ps) (.int .i64 (q.a : Nat)) (fr37 (.pointer (some ⟨ga,oa,none⟩)) (.pointer (some ⟨gb,ob,none⟩)) (.int .i64 d) v3 v4 v5 (.pointer (some ⟨T,0,none⟩)) (.int .i64 (lnS p q).w) v8 v9 xa xb (.pointer (some ⟨ga,oa,none⟩)) (.pointer (some ⟨ga,oa,none⟩)) (.pointer (some ⟨ga,oa + 1,none⟩)) (.int .i64 (p.n : Nat)) (.pointer (some ⟨gb,ob,none⟩)) (.pointer (some ⟨gb,ob,none⟩)) (.pointer (some ⟨gb,ob,none⟩)) (.int .i64 (q.a : Nat)) xk xl xm xn xo xp xq xr xt) hQ (fun w hS => by have e := hS.q.c0; unfold fr37 ops37_2_7; go_simp) hS ?_
 refine take_r 8 ⟨some 20,.move (.tmp 7),3,ps,#[],none⟩ (.int .i64 (lnS p q).w) hQ (fun w _ => by kernel_rfl) hS ?_
 refine take_k 9 (ops37_2_9 ps) (.int .i64 d) (fr37 (.pointer (some ⟨ga,oa,none⟩)) (.pointer (some ⟨gb,ob,none⟩)) (.int .i64 d) v3 v4 v5 (.pointer (some ⟨T,0,none⟩)) (.int .i64 (lnS p q).w) v8 v9 xa xb (.pointer (some ⟨ga,oa,none⟩)) (.pointer (some ⟨ga,oa,none⟩)) (.pointer (some ⟨ga,oa + 1,none⟩)) (.int .i64 (p.n : Nat)) (.pointer (some ⟨gb,ob,none⟩)) (.pointer (some ⟨gb,ob,none⟩)) (.pointer (some ⟨gb,ob,none⟩)) (.int .i64 (q.a : Nat)) (.int .i64 (lnS p q).w) (.int .i64 d) xm xn xo xp xq xr xt) hQ (fun w _ => by kernel_rfl) hS ?_
 refine take_r 10 ⟨some 22,.binOp .gtr 3 (.tmp 20) (.tmp 21) 3,4,ps,#[⟨8,.data⟩,⟨9,.data⟩],none⟩ (.bool (decide (d < (lnS p q).w))) hQ (fun w hS => by unfold fr37; go_simp) hS ?_
 refine take_k 11 (ops37_2_11 ps) (.pointer (some ⟨gb,ob,none⟩)) (fr37 (.pointer (some ⟨ga,oa,none⟩)) (.pointer (some ⟨gb,ob,none⟩)) (.int .i64 d) v3 v4 v5 (.pointer (some ⟨T,0,none⟩)) (.int .i64 (lnS p q).w) v8 v9 xa xb (.pointer (some ⟨ga,oa,none⟩)) (.pointer (some ⟨ga,oa,none⟩)) (.pointer (some ⟨ga,oa + 1,none⟩)) (.int .i64 (p.n : Nat)) (.pointer (some ⟨gb,ob,none⟩)) (.pointer (some ⟨gb,ob,none⟩)) (.pointer (some ⟨gb,ob,none⟩)) (.int .i64 (q.a : Nat)) (.int .i64 (lnS p q).w) (.int .i64 d) (.bool (decide (d < (lnS p q).w))) (.pointer (some ⟨gb,ob,none⟩)) xo xp xq xr xt) hQ (fun w _ => by kernel_rfl) hS ?_
 refine take_r 12 ⟨some 24,.nilCheck (.tmp 23),0,ps,#[⟨11,.data⟩],none⟩ (.pointer (some ⟨gb,ob,none⟩)) hQ (fun w hS => by unfold fr37; go_simp) hS ?_
 refine take_k 13 (ops37_2_13 ps) (.pointer (some ⟨gb,ob + 9,none⟩)) (fr37 (.pointer (some ⟨ga,oa,none⟩)) (.pointer (some ⟨gb,ob,none⟩)) (.int .i64 d) v3 v4 v5 (.pointer (some ⟨T,0,none⟩)) (.int .i64 (lnS p q).w) v8 v9 xa xb (.pointer (some ⟨ga,oa,none⟩)) (.pointer (some ⟨ga,oa,none⟩)) (.pointer (some ⟨ga,oa + 1,none⟩)) (.int .i64 (p.n : Nat)) (.pointer (some ⟨gb,ob,none⟩)) (.pointer (some ⟨gb,ob,none⟩)) (.pointer (some ⟨gb,ob,none⟩)) (.int .i64 (q.a : Nat)) (.int .i64 (lnS p q).w) (.int .i64 d) (.bool (decide (d < (lnS p q).w))) (.pointer (some ⟨gb,ob,none⟩)) (.pointer (some ⟨gb,ob,none⟩)) (.pointer (some ⟨gb,ob + 9,none⟩)) xq xr xt) hQ (fun w hS => by unfold fr37 ops37_2_13; go_simp) hS ?_
 refine take_r 14 ⟨some 26,.load 4 (.tmp 25),4,ps,#[⟨13,.data⟩],none⟩ (.bool q.y) hQ (fun w hS => by have e := hS.q.c9; unfold fr37; go_simp) hS ?_
 refine take_k 15 (ops37_2_15 ps) (.int .i64 (lnS p q).w) (fr37 (.pointer (some ⟨ga,oa,none⟩)) (.pointer (some ⟨gb,ob,none⟩)) (.int .i64 d) v3 v4 v5 (.pointer (some ⟨T,0,none⟩)) (.int .i64 (lnS p q).w) v8 v9 xa xb (.pointer (some ⟨ga,oa,none⟩)) (.pointer (some ⟨ga,oa,none⟩)) (.pointer (some ⟨ga,oa + 1,none⟩)) (.int .i64 (p.n : Nat)) (.pointer (some ⟨gb,ob,none⟩)) (.pointer (some ⟨gb,ob,none⟩)) (.pointer (some ⟨gb,ob,none⟩)) (.int .i64 (q.a : Nat)) (.int .i64 (lnS p q).w) (.int .i64 d) (.bool (decide (d < (lnS p q).w))) (.pointer (some ⟨gb,ob,none⟩)) (.pointer (some ⟨gb,ob,none⟩)) (.pointer (some ⟨gb,ob + 9,none⟩)) (.bool q.y) (.int .i64 (lnS p q).w) xt) hQ (fun w _ => by kernel_rfl) hS ?_
 refine take_r 16 ⟨some 28,.build 46 #[(0,.tmp 15),(1,.tmp 19),(2,.tmp 22),(3,.tmp 26),(4,.tmp 27)],46,ps,#[⟨3,.data⟩,⟨7,.data⟩,⟨10,.data⟩,⟨14,.data⟩,⟨15,.data⟩],none⟩ (.agg (pcL (pcS p q d)).toArray) hQ (fun w hS => by unfold fr37; go_simp; try rfl) hS ?_
 refine want_k 17 (ops37_2_17 ps) fun K hK => ?_
 obtain ⟨z,hz⟩ := hS.t
 refine wp_store_row 46 _ _ (by unfold ops37_2_17; rfl) T (pcL (pcS p q d)).toArray rfl rfl 46 _ hz (info46 _) rfl (pcL_all _) ?_
 have hS2 : PeS ga oa p gb ob q T ((World.drew w).setRow T (pcL (pcS p q d)).toArray) := hS.set ha hb _
 refine hK _ _ hS2 (cast_h (fr37 (.pointer (some ⟨ga,oa,none⟩)) (.pointer (some ⟨gb,ob,none⟩)) (.int .i64 d) v3 v4 v5 (.pointer (some ⟨T,0,none⟩)) (.int .i64 (lnS p q).w) v8 v9 xa xb (.pointer (some ⟨ga,oa,none⟩)) (.pointer (some ⟨ga,oa,none⟩)) (.pointer (some ⟨ga,oa + 1,none⟩)) (.int .i64 (p.n : Nat)) (.pointer (some ⟨gb,ob,none⟩)) (.pointer (some ⟨gb,ob,none⟩)) (.pointer (some ⟨gb,ob,none⟩)) (.int .i64 (q.a : Nat)) (.int .i64 (lnS p q).w) (.int .i64 d) (.bool (decide (d < (lnS p q).w))) (.pointer (some ⟨gb,ob,none⟩)) (.pointer (some ⟨gb,ob,none⟩)) (.pointer (some ⟨gb,ob + 9,none⟩)) (.bool q.y) (.int .i64 (lnS p q).w) (.agg (pcL (pcS p q d)).toArray)) (by kernel_rfl) ?_)
 clear hK K
 exact wpAnyH_done (by kernel_rfl) hq _
theorem piece_any (ga oa gb ob : Nat) (p q : St) (d : Int) (hp : StOk p) (hq : StOk q) (w : World) (hA : StAt ga oa p w) (hB : StAt gb ob q w) :
  Calls Tryz.prog 37 #[.pointer (some ⟨ga,oa,none⟩),.pointer (some ⟨gb,ob,none⟩),.int .i64 d] w fun e w' => e = .returned (.agg (pcL (pcS p q d)).toArray) ∧ Below w.heap.size w w' := by
 have hb0 := (Below.refl w.heap.size w).alloc (Nat.le_refl _) (.cells #[.int .i64 0,.int .i64 0,.bool false,.bool false,.int .i64 0] 46)
 have hS0 : Hid (PeS ga oa p gb ob q w.heap.size (w.alloc (.cells #[.int .i64 0,.int .i64 0,.bool false,.bool false,.int .i64 0] 46))) := ⟨hA.below hb0 hA.lt,hB.below hb0 hB.lt,pc0,World.alloc_heap_new w _⟩
 have hl : Hid (Calls Tryz.prog 69 #[.pointer (some ⟨ga,oa,none⟩),.pointer (some ⟨gb,ob,none⟩)] (w.alloc (.cells #[.int .i64 0,.int .i64 0,.bool false,.bool false,.int .i64 0] 46)) fun e w' => e = .returned (.agg #[.int .i64 (lnS p q).w,.int .i64 (lnS p q).s,.int .i64 (lnS p q).h]) ∧ Below (w.alloc (.cells #[.int .i64 0,.int .i64 0,.bool false,.bool false,.int .i64 0] 46)).heap.size (w.alloc (.cells #[.int .i64 0,.int .i64 0,.bool false,.bool false,.int .i64 0] 46)) w') := sline_any ga oa gb ob p q hp.b hq.e _ hS0.out.p hS0.out.q
 have hne : ga ≠ w.heap.size ∧ gb ≠ w.heap.size := ⟨by have := hA.lt; omega,by have := hB.lt; omega⟩
 have hb0h : Hid (Below w.heap.size w (w.alloc (.cells #[.int .i64 0,.int .i64 0,.bool false,.bool false,.int .i64 0] 46))) := hb0
 have hfld : ∀ W,(Instr.field 89 (.agg #[.int .i64 (lnS p q).w,.int .i64 (lnS p q).s,.int .i64 (lnS p q).h]) 0).run Tryz.prog W = .ok (.int .i64 (lnS p q).w) W := fun W => by kernel_rfl
 clear hA hB hp hq hb0
 go_enter Tryz.func37,Tryz.ntmps37
 go_wp2_with fail
 generalize w.alloc (.cells #[.int .i64 0,.int .i64 0,.bool false,.bool false,.int .i64 0] 46) = wz at *
 go_wp2_with (go_at_call 69; refine hl.out.mono ?_; rintro e w2 ⟨rfl,hb2⟩; have hS2 : Hid (PeS ga oa p gb ob q w.heap.size w2) := hS0.out.below hb2; have hb3 : Hid (Below w.heap.size w w2) := hb0h.out.trans (hb2.mono hb0h.out.size); clear hb2 hS0 hb0h hl)
 refine pe_r2 _ (fun _ _ _ _ _ h => h) _ _ ga oa p gb ob q w.heap.size d w2 ⟨hS2.out.p.below (below_drew _) hS2.out.p.lt,hS2.out.q.below (below_drew _) hS2.out.q.lt,hS2.out.t⟩ hne.1 hne.2 ?_
 obtain ⟨z,hz⟩ := hS2.out.t
 have hz2 : ((World.drew w2).setRow w.heap.size (pcL (pcS p q d)).toArray).heap[w.heap.size]? = some (.cells (pcL (pcS p q d)).toArray 46 (0,0)) := setRow_heap _ _ _ _ _ _ hz
 have hb4 : Hid (Below w.heap.size w ((World.drew w2).setRow w.heap.size (pcL (pcS p q d)).toArray)) := hb3.out.drew.trans ((Turns.setRow (X := fun k => k = w.heap.size) _ rfl _).below hb3.out.drew.size (fun k hk => by omega))
 clear hz hS2 hb3 hfld
 generalize (World.drew w2).setRow w.heap.size (pcL (pcS p q d)).toArray = w5 at *
 unfold fr37
 go_wp2_with fail
 exact bodyPost_ret (results_cell_row rfl _ _ w.heap.size 46 _ (0,0) _ rfl hz2 Tryz.underlying46 rfl (info46 _)) rfl ⟨rfl,hb4.out⟩
end Go.Proofs.YtfndocmgonlhpaaGreatDoor
