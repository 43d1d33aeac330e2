/-
  What is proved here: the regions of alone, cut and box that make an item, in whatever order their operations come up.
  What is proved here: what alone, box and isSign of item answer.
-/
import Derived.Test.YtaphggjakaghjaaGreatDoorG1
import Derived.Test.YtaphggjakaghjaaGreatDoorG18
namespace Go.Proofs.YtaphggjakaghjaaGreatDoor
open Go.RowKit Go.Shelf
set_option maxRecDepth 100000
set_option maxHeartbeats 1000000

structure MX (b : Nat) (m : Ms) (W : World) : Prop where
 row : W.heap[b]? = some (.cells (msC m) 147 (0,0))
theorem MX.lt {W : World} {b : Nat} {m : Ms} (h : MX b m W) : b < W.heap.size := (Array.getElem?_eq_some_iff.1 h.row).1
theorem MX.c0 {W : World} {b : Nat} {m : Ms} (h : MX b m W) : W.cell? ⟨b,0,none⟩ = some (.int .i64 m.f) := by rw [Lib.cell_of_heap h.row]; rfl
theorem MX.c1 {W : World} {b : Nat} {m : Ms} (h : MX b m W) : W.cell? ⟨b,1,none⟩ = some (.int .i64 m.t) := by rw [Lib.cell_of_heap h.row]; rfl
theorem MX.c3 {W : World} {b : Nat} {m : Ms} (h : MX b m W) : W.cell? ⟨b,3,none⟩ = some (.int .i64 m.s) := by rw [Lib.cell_of_heap h.row]; rfl
theorem MX.turns {X : Nat → Prop} {W W' : World} {b : Nat} {m : Ms} (h : MX b m W) (ht : Turns X W W') (hn : ¬ X b) : MX b m W' := ⟨(ht.block b h.lt hn).trans h.row⟩
def fr72 (v0 v1 v2 v3 v4 v5 v6 v7 v8 v9 xa xb xc xd xe xf xg xh xi xj xk xl xm xn xo xp xq xr xt xu xv xw xx xy xz xA xB xC xD : Value) : Act := { tmps := #[v0,v1,v2,v3,v4,v5,v6,v7,v8,v9,xa,xb,xc,xd,xe,xf,xg,xh,xi,xj,xk,xl,xm,xn,xo,xp,xq,xr,xt,xu,xv,xw,xx,xy,xz,xA,xB,xC,xD],defers := [] }
def ops72_7_0 (ps : String) : Oper := ⟨some 30,.fieldAddr 147 (.tmp 1) 0,0,ps,#[],none⟩
def ops72_7_1 (ps : String) : Oper := ⟨some 31,.load 3 (.tmp 30),3,ps,#[⟨0,.data⟩],none⟩
def ops72_7_2 (ps : String) : Oper := ⟨some 32,.fieldAddr 147 (.tmp 1) 1,0,ps,#[],none⟩
def ops72_7_3 (ps : String) : Oper := ⟨some 33,.load 3 (.tmp 32),3,ps,#[⟨2,.data⟩],none⟩
def ops72_7_4 (ps : String) : Oper := ⟨some 34,.fieldAddr 147 (.tmp 1) 3,0,ps,#[],none⟩
def ops72_7_5 (ps : String) : Oper := ⟨some 35,.load 3 (.tmp 34),3,ps,#[⟨4,.data⟩],none⟩
def ops72_7_6 (ps : String) : Oper := ⟨some 36,.call ⟨.value (.func 228),#[.tmp 35],#[3]⟩,3,ps,#[⟨5,.data⟩],none⟩
def ops72_7_7 (ps : String) : Oper := ⟨some 37,.build 125 #[(0,.const (.int .i64 3)),(1,.tmp 31),(2,.tmp 33),(3,.tmp 36),(6,.const (.int .i64 50)),(7,.const (.bool true))],125,ps,#[⟨1,.data⟩,⟨3,.data⟩,⟨6,.data⟩],none⟩
def ops72_7_8 (ps : String) : Oper := ⟨none,.store 125 (.tmp 2) (.tmp 37),0,ps,#[⟨7,.data⟩,⟨6,.chain⟩,⟨0,.phase⟩,⟨1,.phase⟩,⟨2,.phase⟩,⟨3,.phase⟩,⟨4,.phase⟩,⟨5,.phase⟩,⟨6,.phase⟩,⟨7,.phase⟩],none⟩
def ops72_7_9 (ps : String) : Oper := ⟨some 3,.assign (.const (.bool true)),4,ps,#[⟨8,.chain⟩,⟨0,.phase⟩,⟨1,.phase⟩,⟨2,.phase⟩,⟨3,.phase⟩,⟨4,.phase⟩,⟨5,.phase⟩,⟨6,.phase⟩,⟨7,.phase⟩,⟨8,.phase⟩],none⟩
def ops72_7 (ps : String) : Array Oper := #[ops72_7_0 ps,ops72_7_1 ps,ops72_7_2 ps,ops72_7_3 ps,ops72_7_4 ps,ops72_7_5 ps,ops72_7_6 ps,ops72_7_7 ps,ops72_7_8 ps,ops72_7_9 ps]

theorem al_r7 (Q : Exit → Act → World → Prop) (hQ : ∀ c x (n : Nat) v w,Q (.panic c) (x.put (some n) v) w → Q (.panic c) x w) (id : Nat) (ps : String) {v0 v3 v4 v5 v6 v7 v8 v9 xa xb xc xd xe xf xg xh xi xj xk xl xm xn xo xp xq xr xt xu xv xw xx xy xz xA xB xC xD : Value} (M D : Nat) (m : Ms) (x0 : It) (w : World) (hS : MX M m (World.drew w))
  (hI : IX (World.drew w) D x0) (hne : M ≠ D)
  (hq : Q .normal (fr72 v0 (.pointer (some ⟨M,0,none⟩)) (.pointer (some ⟨D,0,none⟩)) (.bool true) v4 v5 v6 v7 v8 v9 xa xb xc xd xe xf xg xh xi xj xk xl xm xn xo xp xq xr xt xu (.pointer (some ⟨M,0,none⟩)) (.int .i64 m.f) (.pointer (some ⟨M,1,none⟩)) (.int .i64 m.t) (.pointer (some ⟨M,3,none⟩)) (.int .i64 m.s) (.int .i64 (hyW m.s)) (.agg (itC ⟨3,m.f,m.t,hyW m.s,0,0,50,true⟩)) xD) ((World.drew w).setRow D (itC ⟨3,m.f,m.t,hyW m.s,0,0,50,true⟩))) :
  (Code.region id (ops72_7 ps) true).wp Tryz.prog Q (fr72 v0 (.pointer (some ⟨M,0,none⟩)) (.pointer (some ⟨D,0,none⟩)) v3 v4 v5 v6 v7 v8 v9 xa xb xc xd xe xf xg xh xi xj xk xl xm xn xo xp xq xr xt xu xv xw xx xy xz xA xB xC xD) w := by
 refine wp_region_held (S := MX M m) (by kernel_rfl) ?_
 change wpAnyH _ _ _ _ _ 10 _ _ (World.drew w)
 refine take_r 0 ⟨some 30,.fieldAddr 147 (.tmp 1) 0,0,ps,#[],none⟩ (.pointer (some ⟨M,0,none⟩)) hQ (fun w hS => by unfold fr72; go_simp) hS ?_
 refine take_r 1 ⟨some 31,.load 3 (.tmp 30),3,ps,#[⟨0,.data⟩],none⟩ (.int .i64 m.f) hQ (fun w hS => by have e := hS.c0; unfold fr72; go_simp) hS ?_
 refine take_r 2 ⟨some 32,.fieldAddr 147 (.tmp 1) 1,0,ps,#[],none⟩ (.pointer (some ⟨M,1,none⟩)) hQ (fun w hS => by unfold fr72; go_simp) hS ?_
 refine take_r 3 ⟨some 33,.load 3 (.tmp 32),3,ps,#[⟨2,.data⟩],none⟩ (.int .i64 m.t) hQ (fun w hS => by have e := hS.c1; unfold fr72; go_simp) hS ?_
 refine take_r 4 ⟨some 34,.fieldAddr 147 (.tmp 1) 3,0,ps,#[],none⟩ (.pointer (some ⟨M,3,none⟩)) hQ (fun w hS => by unfold fr72; go_simp) hS ?_
 refine take_k 5 (ops72_7_5 ps) (.int .i64 m.s) (fr72 v0 (.pointer (some ⟨M,0,none⟩)) (.pointer (some ⟨D,0,none⟩)) v3 v4 v5 v6 v7 v8 v9 xa xb xc xd xe xf xg xh xi xj xk xl xm xn xo xp xq xr xt xu (.pointer (some ⟨M,0,none⟩)) (.int .i64 m.f) (.pointer (some ⟨M,1,none⟩)) (.int .i64 m.t) (.pointer (some ⟨M,3,none⟩)) (.int .i64 m.s) xB xC xD) hQ (fun w hS => by have e := hS.c3; unfold fr72 ops72_7_5; go_simp) hS ?_
 refine want_k 6 (ops72_7_6 ps) fun K hK => ?_
 unfold fr72 ops72_7_6
 go_simp
 refine (hyphenWidth_any m.s _).mono ?_
 rintro e w' ⟨rfl,hww⟩
 subst w'
 refine hK _ _ hS (cast_h (fr72 v0 (.pointer (some ⟨M,0,none⟩)) (.pointer (some ⟨D,0,none⟩)) v3 v4 v5 v6 v7 v8 v9 xa xb xc xd xe xf xg xh xi xj xk xl xm xn xo xp xq xr xt xu (.pointer (some ⟨M,0,none⟩)) (.int .i64 m.f) (.pointer (some ⟨M,1,none⟩)) (.int .i64 m.t) (.pointer (some ⟨M,3,none⟩)) (.int .i64 m.s) (.int .i64 (hyW m.s)) xC xD) (by kernel_rfl) ?_)
 clear hK K
 refine take_r 7 ⟨some 37,.build 125 #[(0,.const (.int .i64 3)),(1,.tmp 31),(2,.tmp 33),(3,.tmp 36),(6,.const (.int .i64 50)),(7,.const (.bool true))],125,ps,#[⟨1,.data⟩,⟨3,.data⟩,⟨6,.data⟩],none⟩ (.agg (itC ⟨3,m.f,m.t,hyW m.s,0,0,50,true⟩)) hQ (fun w hS => by unfold fr72; go_simp; try rfl) hS ?_
 refine want_k 8 (ops72_7_8 ps) fun K hK => ?_
 refine wp_store_row 125 _ _ (by unfold ops72_7_8; rfl) D (itC ⟨3,m.f,m.t,hyW m.s,0,0,50,true⟩) rfl rfl 125 _ hI.row (info51 _) rfl (itC_one _) ?_
 have hS2 : MX M m ((World.drew w).setRow D (itC ⟨3,m.f,m.t,hyW m.s,0,0,50,true⟩)) := hS.turns (Turns.setRow (X := fun b => b = D) _ (r := D) rfl _) hne
 refine hK _ _ hS2 (cast_h (fr72 v0 (.pointer (some ⟨M,0,none⟩)) (.pointer (some ⟨D,0,none⟩)) v3 v4 v5 v6 v7 v8 v9 xa xb xc xd xe xf xg xh xi xj xk xl xm xn xo xp xq xr xt xu (.pointer (some ⟨M,0,none⟩)) (.int .i64 m.f) (.pointer (some ⟨M,1,none⟩)) (.int .i64 m.t) (.pointer (some ⟨M,3,none⟩)) (.int .i64 m.s) (.int .i64 (hyW m.s)) (.agg (itC ⟨3,m.f,m.t,hyW m.s,0,0,50,true⟩)) xD) (by kernel_rfl) ?_)
 clear hK K
 refine take_r 9 ⟨some 3,.assign (.const (.bool true)),4,ps,#[⟨8,.chain⟩,⟨0,.phase⟩,⟨1,.phase⟩,⟨2,.phase⟩,⟨3,.phase⟩,⟨4,.phase⟩,⟨5,.phase⟩,⟨6,.phase⟩,⟨7,.phase⟩,⟨8,.phase⟩],none⟩ (.bool true) hQ (fun w _ => by kernel_rfl) hS2 ?_
 exact wpAnyH_done (by kernel_rfl) hq _
def fr73 (v0 v1 v2 v3 v4 v5 v6 v7 v8 v9 xa xb xc xd xe xf xg xh xi xj xk xl xm xn xo xp xq xr xt xu xv xw xx xy xz xA : Value) : Act := { tmps := #[v0,v1,v2,v3,v4,v5,v6,v7,v8,v9,xa,xb,xc,xd,xe,xf,xg,xh,xi,xj,xk,xl,xm,xn,xo,xp,xq,xr,xt,xu,xv,xw,xx,xy,xz,xA],defers := [] }
def ops73_3_0 (ps : String) : Oper := ⟨some 18,.fieldAddr 147 (.tmp 6) 0,0,ps,#[],none⟩
def ops73_3_1 (ps : String) : Oper := ⟨some 19,.load 3 (.tmp 18),3,ps,#[⟨0,.data⟩],none⟩
def ops73_3_2 (ps : String) : Oper := ⟨some 20,.fieldAddr 147 (.tmp 6) 0,0,ps,#[],none⟩
def ops73_3_3 (ps : String) : Oper := ⟨some 21,.load 3 (.tmp 20),3,ps,#[⟨2,.data⟩],none⟩
def ops73_3_4 (ps : String) : Oper := ⟨some 22,.fieldAddr 147 (.tmp 6) 3,0,ps,#[],none⟩
def ops73_3_5 (ps : String) : Oper := ⟨some 23,.load 3 (.tmp 22),3,ps,#[⟨4,.data⟩],none⟩
def ops73_3_6 (ps : String) : Oper := ⟨some 24,.call ⟨.value (.func 228),#[.tmp 23],#[3]⟩,3,ps,#[⟨5,.data⟩],none⟩
def ops73_3_7 (ps : String) : Oper := ⟨some 25,.build 125 #[(0,.const (.int .i64 3)),(1,.tmp 19),(2,.tmp 21),(3,.tmp 24),(6,.const (.int .i64 100)),(7,.const (.bool true))],125,ps,#[⟨1,.data⟩,⟨3,.data⟩,⟨6,.data⟩],none⟩
def ops73_3_8 (ps : String) : Oper := ⟨none,.store 125 (.tmp 4) (.tmp 25),0,ps,#[⟨7,.data⟩,⟨6,.chain⟩,⟨0,.phase⟩,⟨1,.phase⟩,⟨2,.phase⟩,⟨3,.phase⟩,⟨4,.phase⟩,⟨5,.phase⟩,⟨6,.phase⟩,⟨7,.phase⟩],none⟩
def ops73_3_9 (ps : String) : Oper := ⟨some 5,.assign (.const (.bool true)),4,ps,#[⟨8,.chain⟩,⟨0,.phase⟩,⟨1,.phase⟩,⟨2,.phase⟩,⟨3,.phase⟩,⟨4,.phase⟩,⟨5,.phase⟩,⟨6,.phase⟩,⟨7,.phase⟩,⟨8,.phase⟩],none⟩
def ops73_3 (ps : String) : Array Oper := #[ops73_3_0 ps,ops73_3_1 ps,ops73_3_2 ps,ops73_3_3 ps,ops73_3_4 ps,ops73_3_5 ps,ops73_3_6 ps,ops73_3_7 ps,ops73_3_8 ps,ops73_3_9 ps]

theorem cu_r3 (Q : Exit → Act → World → Prop) (hQ : ∀ c x (n : Nat) v w,Q (.panic c) (x.put (some n) v) w → Q (.panic c) x w) (id : Nat) (ps : String) {v0 v1 v2 v3 v5 v7 v8 v9 xa xb xc xd xe xf xg xh xi xj xk xl xm xn xo xp xq xr xt xu xv xw xx xy xz xA : Value} (M D : Nat) (m : Ms) (x0 : It) (w : World) (hS : MX M m (World.drew w))
  (hI : IX (World.drew w) D x0) (hne : M ≠ D)
  (hq : Q .normal (fr73 v0 v1 v2 v3 (.pointer (some ⟨D,0,none⟩)) (.bool true) (.pointer (some ⟨M,0,none⟩)) v7 v8 v9 xa xb xc xd xe xf xg xh (.pointer (some ⟨M,0,none⟩)) (.int .i64 m.f) (.pointer (some ⟨M,0,none⟩)) (.int .i64 m.f) (.pointer (some ⟨M,3,none⟩)) (.int .i64 m.s) (.int .i64 (hyW m.s)) (.agg (itC ⟨3,m.f,m.f,hyW m.s,0,0,100,true⟩)) xq xr xt xu xv xw xx xy xz xA) ((World.drew w).setRow D (itC ⟨3,m.f,m.f,hyW m.s,0,0,100,true⟩))) :
  (Code.region id (ops73_3 ps) true).wp Tryz.prog Q (fr73 v0 v1 v2 v3 (.pointer (some ⟨D,0,none⟩)) v5 (.pointer (some ⟨M,0,none⟩)) v7 v8 v9 xa xb xc xd xe xf xg xh xi xj xk xl xm xn xo xp xq xr xt xu xv xw xx xy xz xA) w := by
 refine wp_region_held (S := MX M m) (by kernel_rfl) ?_
 change wpAnyH _ _ _ _ _ 10 _ _ (World.drew w)
 refine take_r 0 ⟨some 18,.fieldAddr 147 (.tmp 6) 0,0,ps,#[],none⟩ (.pointer (some ⟨M,0,none⟩)) hQ (fun w hS => by unfold fr73; go_simp) hS ?_
 refine take_r 1 ⟨some 19,.load 3 (.tmp 18),3,ps,#[⟨0,.data⟩],none⟩ (.int .i64 m.f) hQ (fun w hS => by have e := hS.c0; unfold fr73; go_simp) hS ?_
 refine take_r 2 ⟨some 20,.fieldAddr 147 (.tmp 6) 0,0,ps,#[],none⟩ (.pointer (some ⟨M,0,none⟩)) hQ (fun w hS => by unfold fr73; go_simp) hS ?_
 refine take_r 3 ⟨some 21,.load 3 (.tmp 20),3,ps,#[⟨2,.data⟩],none⟩ (.int .i64 m.f) hQ (fun w hS => by have e := hS.c0; unfold fr73; go_simp) hS ?_
 refine take_r 4 ⟨some 22,.fieldAddr 147 (.tmp 6) 3,0,ps,#[],none⟩ (.pointer (some ⟨M,3,none⟩)) hQ (fun w hS => by unfold fr73; go_simp) hS ?_
 refine take_k 5 (ops73_3_5 ps) (.int .i64 m.s) (fr73 v0 v1 v2 v3 (.pointer (some ⟨D,0,none⟩)) v5 (.pointer (some ⟨M,0,none⟩)) v7 v8 v9 xa xb xc xd xe xf xg xh (.pointer (some ⟨M,0,none⟩)) (.int .i64 m.f) (.pointer (some ⟨M,0,none⟩)) (.int .i64 m.f) (.pointer (some ⟨M,3,none⟩)) (.int .i64 m.s) xo xp xq xr xt xu xv xw xx xy xz xA) hQ (fun w hS => by have e := hS.c3; unfold fr73 ops73_3_5; go_simp) hS ?_
 refine want_k 6 (ops73_3_6 ps) fun K hK => ?_
 unfold fr73 ops73_3_6
 go_simp
 refine (hyphenWidth_any m.s _).mono ?_
 rintro e w' ⟨rfl,hww⟩
 subst w'
 refine hK _ _ hS (cast_h (fr73 v0 v1 v2 v3 (.pointer (some ⟨D,0,none⟩)) v5 (.pointer (some ⟨M,0,none⟩)) v7 v8 v9 xa xb xc xd xe xf xg xh (.pointer (some ⟨M,0,none⟩)) (.int .i64 m.f) (.pointer (some ⟨M,0,none⟩)) (.int .i64 m.f) (.pointer (some ⟨M,3,none⟩)) (.int .i64 m.s) (.int .i64 (hyW m.s)) xp xq xr xt xu xv xw xx xy xz xA) (by kernel_rfl) ?_)
 clear hK K
 refine take_r 7 ⟨some 25,.build 125 #[(0,.const (.int .i64 3)),(1,.tmp 19),(2,.tmp 21),(3,.tmp 24),(6,.const (.int .i64 100)),(7,.const (.bool true))],125,ps,#[⟨1,.data⟩,⟨3,.data⟩,⟨6,.data⟩],none⟩ (.agg (itC ⟨3,m.f,m.f,hyW m.s,0,0,100,true⟩)) hQ (fun w hS => by unfold fr73; go_simp; try rfl) hS ?_
 refine want_k 8 (ops73_3_8 ps) fun K hK => ?_
 refine wp_store_row 125 _ _ (by unfold ops73_3_8; rfl) D (itC ⟨3,m.f,m.f,hyW m.s,0,0,100,true⟩) rfl rfl 125 _ hI.row (info51 _) rfl (itC_one _) ?_
 have hS2 : MX M m ((World.drew w).setRow D (itC ⟨3,m.f,m.f,hyW m.s,0,0,100,true⟩)) := hS.turns (Turns.setRow (X := fun b => b = D) _ (r := D) rfl _) hne
 refine hK _ _ hS2 (cast_h (fr73 v0 v1 v2 v3 (.pointer (some ⟨D,0,none⟩)) v5 (.pointer (some ⟨M,0,none⟩)) v7 v8 v9 xa xb xc xd xe xf xg xh (.pointer (some ⟨M,0,none⟩)) (.int .i64 m.f) (.pointer (some ⟨M,0,none⟩)) (.int .i64 m.f) (.pointer (some ⟨M,3,none⟩)) (.int .i64 m.s) (.int .i64 (hyW m.s)) (.agg (itC ⟨3,m.f,m.f,hyW m.s,0,0,100,true⟩)) xq xr xt xu xv xw xx xy xz xA) (by kernel_rfl) ?_)
 clear hK K
 refine take_r 9 ⟨some 5,.assign (.const (.bool true)),4,ps,#[⟨8,.chain⟩,⟨0,.phase⟩,⟨1,.phase⟩,⟨2,.phase⟩,⟨3,.phase⟩,⟨4,.phase⟩,⟨5,.phase⟩,⟨6,.phase⟩,⟨7,.phase⟩,⟨8,.phase⟩],none⟩ (.bool true) hQ (fun w _ => by kernel_rfl) hS2 ?_
 exact wpAnyH_done (by kernel_rfl) hq _
structure BX (g o n : Nat) (f t : Int) (W : World) : Prop where
 lt : g < W.heap.size
 c0 : W.cell? ⟨g,o,none⟩ = some (.int .i64 f)
 c1 : W.cell? ⟨g,o + (n - 1) * 6 + 1,none⟩ = some (.int .i64 t)
theorem BX.turns {X : Nat → Prop} {W W' : World} {g o n : Nat} {f t : Int} (h : BX g o n f t W) (ht : Turns X W W') (hn : ¬ X g) : BX g o n f t W' :=
 ⟨Nat.lt_of_lt_of_le h.lt ht.size,by rw [World.cell?_of_block (ht.block g h.lt hn)]; exact h.c0,by rw [World.cell?_of_block (ht.block g h.lt hn)]; exact h.c1⟩
def fr71 (v0 v1 v2 v3 v4 v5 v6 v7 v8 v9 xa xb xc xd xe xf xg xh xi xj xk xl xm xn xo : Value) : Act := { tmps := #[v0,v1,v2,v3,v4,v5,v6,v7,v8,v9,xa,xb,xc,xd,xe,xf,xg,xh,xi,xj,xk,xl,xm,xn,xo],defers := [] }
def ops71_2_0 (ps : String) : Oper := ⟨some 12,.move (.tmp 0),143,ps,#[],none⟩
def ops71_2_1 (ps : String) : Oper := ⟨some 13,.indexAddr 143 (.tmp 12) (.const (.int .i64 0)),0,ps,#[⟨0,.data⟩],none⟩
def ops71_2_2 (ps : String) : Oper := ⟨some 14,.fieldAddr 147 (.tmp 13) 0,0,ps,#[⟨1,.data⟩],none⟩
def ops71_2_3 (ps : String) : Oper := ⟨some 15,.load 3 (.tmp 14),3,ps,#[⟨2,.data⟩],none⟩
def ops71_2_4 (ps : String) : Oper := ⟨some 16,.move (.tmp 0),143,ps,#[],none⟩
def ops71_2_5 (ps : String) : Oper := ⟨some 17,.move (.tmp 0),143,ps,#[],none⟩
def ops71_2_6 (ps : String) : Oper := ⟨some 18,.call ⟨.builtin .len,#[.tmp 17],#[143]⟩,3,ps,#[⟨5,.data⟩],none⟩
def ops71_2_7 (ps : String) : Oper := ⟨some 19,.binOp .sub 3 (.tmp 18) (.const (.int .i64 1)) 3,3,ps,#[⟨6,.data⟩],none⟩
def ops71_2_8 (ps : String) : Oper := ⟨some 20,.indexAddr 143 (.tmp 16) (.tmp 19),0,ps,#[⟨4,.data⟩,⟨7,.data⟩],none⟩
def ops71_2_9 (ps : String) : Oper := ⟨some 21,.fieldAddr 147 (.tmp 20) 1,0,ps,#[⟨8,.data⟩],none⟩
def ops71_2_10 (ps : String) : Oper := ⟨some 22,.load 3 (.tmp 21),3,ps,#[⟨9,.data⟩],none⟩
def ops71_2_11 (ps : String) : Oper := ⟨some 23,.move (.tmp 3),3,ps,#[],none⟩
def ops71_2_12 (ps : String) : Oper := ⟨some 24,.build 125 #[(0,.const (.int .i64 1)),(1,.tmp 15),(2,.tmp 22),(3,.tmp 23)],125,ps,#[⟨3,.data⟩,⟨10,.data⟩,⟨11,.data⟩],none⟩
def ops71_2_13 (ps : String) : Oper := ⟨none,.store 125 (.tmp 2) (.tmp 24),0,ps,#[⟨12,.data⟩,⟨0,.phase⟩,⟨1,.phase⟩,⟨2,.phase⟩,⟨3,.phase⟩,⟨4,.phase⟩,⟨5,.phase⟩,⟨6,.phase⟩,⟨7,.phase⟩,⟨8,.phase⟩,⟨9,.phase⟩,⟨10,.phase⟩,⟨11,.phase⟩,⟨12,.phase⟩],none⟩
def ops71_2 (ps : String) : Array Oper := #[ops71_2_0 ps,ops71_2_1 ps,ops71_2_2 ps,ops71_2_3 ps,ops71_2_4 ps,ops71_2_5 ps,ops71_2_6 ps,ops71_2_7 ps,ops71_2_8 ps,ops71_2_9 ps,ops71_2_10 ps,ops71_2_11 ps,ops71_2_12 ps,ops71_2_13 ps]

theorem bo_r2 (Q : Exit → Act → World → Prop) (hQ : ∀ c x (n : Nat) v w,Q (.panic c) (x.put (some n) v) w → Q (.panic c) x w) (id : Nat) (ps : String) {v1 v4 v5 v6 v7 v8 v9 xa xb xc xd xe xf xg xh xi xj xk xl xm xn xo : Value} (g o n cap D : Nat) (f t wv : Int) (x0 : It) (w : World) (hS : BX g o n f t (World.drew w))
  (hI : IX (World.drew w) D x0) (hne : g ≠ D) (h1 : (1 : Int) ≤ n) (h2 : (n : Int) ≤ 4096)
  (hq : Q .normal (fr71 (.slice (some ⟨g,o,none⟩) n cap) v1 (.pointer (some ⟨D,0,none⟩)) (.int .i64 wv) v4 v5 v6 v7 v8 v9 xa xb (.slice (some ⟨g,o,none⟩) n cap) (.pointer (some ⟨g,o,none⟩)) (.pointer (some ⟨g,o,none⟩)) (.int .i64 f) (.slice (some ⟨g,o,none⟩) n cap) (.slice (some ⟨g,o,none⟩) n cap) (.int .i64 (n : Nat)) (.int .i64 ((n : Int) - 1)) (.pointer (some ⟨g,o + (n - 1) * 6,none⟩)) (.pointer (some ⟨g,o + (n - 1) * 6 + 1,none⟩)) (.int .i64 t) (.int .i64 wv) (.agg (itC ⟨1,f,t,wv,0,0,0,false⟩))) ((World.drew w).setRow D (itC ⟨1,f,t,wv,0,0,0,false⟩))) :
  (Code.region id (ops71_2 ps) true).wp Tryz.prog Q (fr71 (.slice (some ⟨g,o,none⟩) n cap) v1 (.pointer (some ⟨D,0,none⟩)) (.int .i64 wv) v4 v5 v6 v7 v8 v9 xa xb xc xd xe xf xg xh xi xj xk xl xm xn xo) w := by
 refine wp_region_held (S := BX g o n f t) (by kernel_rfl) ?_
 change wpAnyH _ _ _ _ _ 14 _ _ (World.drew w)
 refine take_r 0 ⟨some 12,.move (.tmp 0),143,ps,#[],none⟩ (.slice (some ⟨g,o,none⟩) n cap) hQ (fun w _ => by kernel_rfl) hS ?_
 refine take_r 1 ⟨some 13,.indexAddr 143 (.tmp 12) (.const (.int .i64 0)),0,ps,#[⟨0,.data⟩],none⟩ (.pointer (some ⟨g,o,none⟩)) hQ (fun w hS => by unfold fr71; go_simp; try (first | omega | (simp; omega))) hS ?_
 refine take_r 2 ⟨some 14,.fieldAddr 147 (.tmp 13) 0,0,ps,#[⟨1,.data⟩],none⟩ (.pointer (some ⟨g,o,none⟩)) hQ (fun w hS => by unfold fr71; go_simp) hS ?_
 refine take_r 3 ⟨some 15,.load 3 (.tmp 14),3,ps,#[⟨2,.data⟩],none⟩ (.int .i64 f) hQ (fun w hS => by have e := hS.c0; unfold fr71; go_simp) hS ?_
 refine pures_h (fuel := 8) (by kernel_rfl) hQ hS [4,5] (fr71 (.slice (some ⟨g,o,none⟩) n cap) v1 (.pointer (some ⟨D,0,none⟩)) (.int .i64 wv) v4 v5 v6 v7 v8 v9 xa xb (.slice (some ⟨g,o,none⟩) n cap) (.pointer (some ⟨g,o,none⟩)) (.pointer (some ⟨g,o,none⟩)) (.int .i64 f) (.slice (some ⟨g,o,none⟩) n cap) (.slice (some ⟨g,o,none⟩) n cap) xi xj xk xl xm xn xo) (by kernel_rfl) (by kernel_rfl) ?_
 refine take_r 6 ⟨some 18,.call ⟨.builtin .len,#[.tmp 17],#[143]⟩,3,ps,#[⟨5,.data⟩],none⟩ (.int .i64 (n : Nat)) hQ (fun w hS => by unfold fr71; go_simp) hS ?_
 refine take_r 7 ⟨some 19,.binOp .sub 3 (.tmp 18) (.const (.int .i64 1)) 3,3,ps,#[⟨6,.data⟩],none⟩ (.int .i64 ((n : Int) - 1)) hQ (fun w hS => by unfold fr71; go_simp; exact wrap_ok (by omega) (by omega)) hS ?_
 refine take_r 8 ⟨some 20,.indexAddr 143 (.tmp 16) (.tmp 19),0,ps,#[⟨4,.data⟩,⟨7,.data⟩],none⟩ (.pointer (some ⟨g,o + (n - 1) * 6,none⟩)) hQ (fun w hS => by unfold fr71; go_simp; try (first | omega | (simp; omega))) hS ?_
 refine take_r 9 ⟨some 21,.fieldAddr 147 (.tmp 20) 1,0,ps,#[⟨8,.data⟩],none⟩ (.pointer (some ⟨g,o + (n - 1) * 6 + 1,none⟩)) hQ (fun w hS => by unfold fr71; go_simp) hS ?_
 refine take_r 10 ⟨some 22,.load 3 (.tmp 21),3,ps,#[⟨9,.data⟩],none⟩ (.int .i64 t) hQ (fun w hS => by have e := hS.c1; unfold fr71; go_simp) hS ?_
 refine take_k 11 (ops71_2_11 ps) (.int .i64 wv) (fr71 (.slice (some ⟨g,o,none⟩) n cap) v1 (.pointer (some ⟨D,0,none⟩)) (.int .i64 wv) v4 v5 v6 v7 v8 v9 xa xb (.slice (some ⟨g,o,none⟩) n cap) (.pointer (some ⟨g,o,none⟩)) (.pointer (some ⟨g,o,none⟩)) (.int .i64 f) (.slice (some ⟨g,o,none⟩) n cap) (.slice (some ⟨g,o,none⟩) n cap) (.int .i64 (n : Nat)) (.int .i64 ((n : Int) - 1)) (.pointer (some ⟨g,o + (n - 1) * 6,none⟩)) (.pointer (some ⟨g,o + (n - 1) * 6 + 1,none⟩)) (.int .i64 t) (.int .i64 wv) xo) hQ (fun w _ => by kernel_rfl) hS ?_
 refine take_r 12 ⟨some 24,.build 125 #[(0,.const (.int .i64 1)),(1,.tmp 15),(2,.tmp 22),(3,.tmp 23)],125,ps,#[⟨3,.data⟩,⟨10,.data⟩,⟨11,.data⟩],none⟩ (.agg (itC ⟨1,f,t,wv,0,0,0,false⟩)) hQ (fun w hS => by unfold fr71; go_simp; try rfl) hS ?_
 refine want_k 13 (ops71_2_13 ps) fun K hK => ?_
 refine wp_store_row 125 _ _ (by unfold ops71_2_13; rfl) D (itC ⟨1,f,t,wv,0,0,0,false⟩) rfl rfl 125 _ hI.row (info51 _) rfl (itC_one _) ?_
 have hS2 : BX g o n f t ((World.drew w).setRow D (itC ⟨1,f,t,wv,0,0,0,false⟩)) := hS.turns (Turns.setRow (X := fun b => b = D) _ (r := D) rfl _) hne
 refine hK _ _ hS2 (cast_h (fr71 (.slice (some ⟨g,o,none⟩) n cap) v1 (.pointer (some ⟨D,0,none⟩)) (.int .i64 wv) v4 v5 v6 v7 v8 v9 xa xb (.slice (some ⟨g,o,none⟩) n cap) (.pointer (some ⟨g,o,none⟩)) (.pointer (some ⟨g,o,none⟩)) (.int .i64 f) (.slice (some ⟨g,o,none⟩) n cap) (.slice (some ⟨g,o,none⟩) n cap) (.int .i64 (n : Nat)) (.int .i64 ((n : Int) - 1)) (.pointer (some ⟨g,o + (n - 1) * 6,none⟩)) (.pointer (some ⟨g,o + (n - 1) * 6 + 1,none⟩)) (.int .i64 t) (.int .i64 wv) (.agg (itC ⟨1,f,t,wv,0,0,0,false⟩))) (by kernel_rfl) ?_)
 clear hK K
 exact wpAnyH_done (by kernel_rfl) hq _
end Go.Proofs.YtaphggjakaghjaaGreatDoor

namespace Go.Proofs.YtaphggjakaghjaaGreatDoor
open Go.RowKit Go.Shelf
set_option maxRecDepth 100000
set_option maxHeartbeats 2000000

theorem alone_any (m : Ms) (hm : 0 ≤ m.w ∧ m.w ≤ 4095) (w : World) : Calls Tryz.prog 193 #[.agg (msC m)] w fun e w' => e = .returned (.tuple #[.agg (itC (loneI m)),.bool (alB m)]) ∧ Below w.heap.size w w' := by
 have hh := hyphenWidth_any m.s
 have hE : Hid (∀ (x : It) (r : Bool),loneI m = x → alB m = r → ∀ (W2 : World) (tm : Array Value),tm.getD 2 undef = .pointer (some ⟨w.heap.size + 1,0,none⟩) → tm.getD 3 undef = .bool r → IX W2 (w.heap.size + 1) x → Below w.heap.size w W2 → bodyPost Tryz.prog Tryz.f193 (fun e w' => e = .returned (.tuple #[.agg (itC (loneI m)),.bool (alB m)]) ∧ Below w.heap.size w w') .ret { tmps := tm,defers := [] } W2) := fun x r hx hr W2 tm h2 h3 hI hb => by
  refine bodyPost_ret (results_cell_row2 rfl _ _ (w.heap.size + 1) 125 (itC x) (0,0) _ h2 hI.row Tryz.underlying125 rfl (info51 _)) rfl ⟨?_,hb⟩
  rw [h3,hx,hr]
 have h1 : Hid (m.k = 3 → loneI m = ⟨2,m.f,m.t,m.w,m.w / 2,m.w / 3,0,false⟩ ∧ alB m = true) := fun h => ⟨by unfold loneI; rw [if_pos h],decide_eq_true (.inl h)⟩
 have h2 : Hid (m.k = 4 → loneI m = ⟨4,m.f,m.t,0,0,0,0,false⟩ ∧ alB m = true) := fun h => ⟨by unfold loneI; rw [if_neg (by omega),if_pos h],decide_eq_true (.inr (.inl h))⟩
 have h3 : Hid (m.k = 5 → loneI m = ⟨3,m.f,m.t,hyW m.s,0,0,50,true⟩ ∧ alB m = true) := fun h => ⟨by unfold loneI; rw [if_neg (by omega),if_neg (by omega),if_pos h],decide_eq_true (.inr (.inr h))⟩
 have h4 : Hid (m.k ≠ 3 → m.k ≠ 4 → m.k ≠ 5 → loneI m = it0 ∧ alB m = false) := fun h h' h'' => ⟨by unfold loneI; rw [if_neg h,if_neg h',if_neg h''],decide_eq_false (by omega)⟩
 generalize loneI m = X at *
 generalize alB m = R at *
 obtain ⟨f,t,k,s,wd,q⟩ := m
 unfold msC at *
 simp only at *
 have hd2 : wd.tdiv 2 = wd / 2 := Int.tdiv_eq_ediv_of_nonneg hm.1
 have hd3 : wd.tdiv 3 = wd / 3 := Int.tdiv_eq_ediv_of_nonneg hm.1
 have hb2 : 0 ≤ wd / 2 ∧ wd / 2 ≤ 4095 := by omega
 have hb3 : 0 ≤ wd / 3 ∧ wd / 3 ≤ 4095 := by omega
 obtain ⟨hm0,hm1⟩ := hm
 by_cases k3 : k = 3
 ·obtain ⟨e1,e2⟩ := h1.out k3
  subst k3
  have hE' := hE.out _ _ e1 e2
  clear hh h1 h2 h3 h4 hE e1 e2
  go_enter Tryz.func193,Tryz.ntmps193
  go_wp2_with fail
  exact hE' _ _ rfl rfl ⟨two_new w _ ⟨2,f,t,wd,wd / 2,wd / 3,0,false⟩⟩ (two_below w _ _)
 by_cases k4 : k = 4
 ·obtain ⟨e1,e2⟩ := h2.out k4
  subst k4
  have hE' := hE.out _ _ e1 e2
  clear hh h1 h2 h3 h4 hE e1 e2
  go_enter Tryz.func193,Tryz.ntmps193
  go_wp2_with fail
  exact hE' _ _ rfl rfl ⟨two_new w _ ⟨4,f,t,0,0,0,0,false⟩⟩ (two_below w _ _)
 by_cases k5 : k = 5
 ·obtain ⟨e1,e2⟩ := h3.out k5
  subst k5
  have hE' := hE.out _ _ e1 e2
  clear h1 h2 h3 h4 hE e1 e2
  go_enter Tryz.func193,Tryz.ntmps193
  go_wp2_with fail
  refine al_r7 _ (fun _ _ _ _ _ h => h) _ _ w.heap.size (w.heap.size + 1) ⟨f,t,5,s,wd,q⟩ it0 _ ⟨(Below.heap_alloc _ _ _ (by simp)).trans (heap_new w _)⟩ ⟨two_new w _ it0⟩ (by omega) ?_
  unfold fr72
  have hI2 : IX ((World.drew ((w.alloc (.cells #[.int .i64 f,.int .i64 t,.int .i64 5,.int .i64 s,.int .i64 wd,.int .i64 q] 147)).alloc (.cells (itC it0) 125))).setRow (w.heap.size + 1) (itC ⟨3,f,t,hyW s,0,0,50,true⟩)) (w.heap.size + 1) ⟨3,f,t,hyW s,0,0,50,true⟩ := IX.set (W := World.drew _) ⟨two_new w _ it0⟩ _
  have hb2 : Below w.heap.size w ((World.drew ((w.alloc (.cells #[.int .i64 f,.int .i64 t,.int .i64 5,.int .i64 s,.int .i64 wd,.int .i64 q] 147)).alloc (.cells (itC it0) 125))).setRow (w.heap.size + 1) (itC ⟨3,f,t,hyW s,0,0,50,true⟩)) := below_row (W := World.drew _) (below_drewM (two_below w _ _) 1) (by show _ ≤ (World.heap _).size; simp; omega) (by omega) _
  have hI3 : Hid (IX _ _ _) := hI2
  have hb3 : Hid (Below _ _ _) := hb2
  clear hI2 hb2
  go_wp2_with fail
  exact hE' _ _ rfl rfl hI3.out hb3.out
 obtain ⟨e1,e2⟩ := h4.out k3 k4 k5
 have q3 : (k == 3) = false := by simpa using k3
 have q4 : (k == 4) = false := by simpa using k4
 have q5 : (k == 5) = false := by simpa using k5
 have hE' := hE.out _ _ e1 e2
 clear hh h1 h2 h3 h4 hE e1 e2
 go_enter Tryz.func193,Tryz.ntmps193
 go_wp2_with fail
 exact hE' _ _ rfl rfl ⟨two_new w _ it0⟩ (two_below w _ _)

def boxI (l : List Ms) : It := ⟨1,(l.getD 0 ms0).f,(l.getD (l.length - 1) ms0).t,natV l 0 l.length,0,0,0,false⟩
theorem box_any (v : Value) (l : List Ms) (h0 : 0 < l.length) (h1 : l.length ≤ 4096) (w : World) (hS : RecAt 6 msL w v l) :
  Calls Tryz.prog 192 #[v] w fun e w' => e = .returned (.agg (itC (boxI l))) ∧ Below w.heap.size w w' := by
 have hB := (Below.refl w.heap.size w).alloc (Nat.le_refl _) (.cells (itC it0) 125)
 have hX := IX.new w it0
 have hN := natural_any v l (by omega) 0 l.length _ (hS.below hB (Nat.le_refl _))
 obtain ⟨a,cap,rfl,h2⟩ := hS.ex
 rcases h2 with h2 | ⟨g,o,rfl,hg,hc⟩
 ·rw [h2] at h0; simp at h0
 have c0 : w.cell? ⟨g,o,none⟩ = some (.int .i64 (l.getD 0 ms0).f) := by
  have := hc 0 h0 0 _ rfl
  rw [getD_is h0]
  simpa using this
 have c1 : w.cell? ⟨g,o + (l.length - 1) * 6 + 1,none⟩ = some (.int .i64 (l.getD (l.length - 1) ms0).t) := by
  have := hc (l.length - 1) (by omega) 1 _ rfl
  rw [getD_is (show l.length - 1 < l.length by omega)]
  simpa using this
 have hN' : Hid (Calls Tryz.prog 138 #[.slice (some ⟨g,o,none⟩) l.length cap,.int .i64 0,.int .i64 l.length] (w.alloc (.cells (itC it0) 125)) fun e w' => e = .returned (.tuple #[.int .i64 (natV l 0 l.length),.int .i64 (natE l 0 l.length)]) ∧ Below (w.alloc (.cells (itC it0) 125)).heap.size (w.alloc (.cells (itC it0) 125)) w') := hN
 have hE : Hid (boxI l = ⟨1,(l.getD 0 ms0).f,(l.getD (l.length - 1) ms0).t,natV l 0 l.length,0,0,0,false⟩) := rfl
 generalize boxI l = R at *
 generalize (l.getD 0 ms0).f = f at *
 generalize (l.getD (l.length - 1) ms0).t = t at *
 generalize natV l 0 l.length = nv at *
 generalize natE l 0 l.length = ne at *
 have hn0 : (1 : Int) ≤ l.length := by omega
 have hn1 : (l.length : Int) ≤ 4096 := by omega
 clear hc hS hN
 generalize l.length = n at *
 go_enter Tryz.func192,Tryz.ntmps192
 go_wp2_with (go_at_call 138; refine hN'.out.mono ?_; rintro e w' ⟨rfl,hb⟩)
 have hb1 : Below w.heap.size w w' := hB.trans (hb.mono hB.size)
 have hX1 : IX w' w.heap.size it0 := hX.below hb hX.lt
 refine bo_r2 _ (fun _ _ _ _ _ h => h) _ _ g o n cap w.heap.size f t nv it0 w' ⟨Nat.lt_of_lt_of_le hg hb1.size,(hb1.cell hg).trans c0,(hb1.cell hg).trans c1⟩ ⟨hX1.row⟩ (by omega) hn0 hn1 ?_
 unfold fr71
 have hX2 : IX ((World.drew w').setRow w.heap.size (itC ⟨1,f,t,nv,0,0,0,false⟩)) w.heap.size ⟨1,f,t,nv,0,0,0,false⟩ := IX.set (W := World.drew w') ⟨hX1.row⟩ _
 have hb2 : Below w.heap.size w ((World.drew w').setRow w.heap.size (itC ⟨1,f,t,nv,0,0,0,false⟩)) := below_row (W := World.drew w') ⟨hb1.1,hb1.2,hb1.3,hb1.4,hb1.5⟩ hb1.size (Nat.le_refl _) _
 generalize (World.drew w').setRow w.heap.size (itC ⟨1,f,t,nv,0,0,0,false⟩) = w2 at *
 go_wp2_with fail
 refine bodyPost_ret (results_cell_row rfl _ _ w.heap.size 125 _ (0,0) _ rfl hX2.row Tryz.underlying125 rfl (info51 _)) rfl ⟨?_,hb2⟩
 rw [hE.out]

structure MFit (t : ByteArray) (m : Ms) : Prop where
 f0 : 0 ≤ m.f
 ft : m.f < m.t
 ts : m.t ≤ t.size
 kd : m.k = kindI (bt t m.f.toNat)
 one : m.k ≠ 1 → m.t = m.f + 1
 ok : mOk m = true
structure Bod where
 t : ByteArray
 mv : Value
 pv : Value
 l : List Ms
 pd : List Bool
def bodC (b : Bod) : Array Value := #[.string b.t,b.mv,b.pv]
abbrev BoolsAt (W : World) (v : Value) (l : List Bool) : Prop := RecAt 1 (fun x : Bool => [Value.bool x]) W v l
structure BodAt (W : World) (b : Bod) : Prop where
 ms : RecAt 6 msL W b.mv b.l
 pv : BoolsAt W b.pv b.pd
 len : b.pd.length = b.l.length
 few : b.l.length ≤ 4096
 fit : ∀ m ∈ b.l,MFit b.t m
theorem BodAt.below {W W' : World} {n : Nat} {b : Bod} (h : BodAt W b) (hb : Below n W W') (hn : W.heap.size ≤ n) : BodAt W' b := ⟨h.ms.below hb hn,h.pv.below hb hn,h.len,h.few,h.fit⟩
def mAt (l : List Ms) (i : Nat) : Ms := l.getD i ms0
theorem mAt_is {l : List Ms} {i : Nat} (h : i < l.length) : mAt l i = l[i] := getD_is h
theorem BodAt.fitAt {W : World} {b : Bod} (h : BodAt W b) {i : Nat} (hi : i < b.l.length) : MFit b.t (mAt b.l i) := by rw [mAt_is hi]; exact h.fit _ (List.getElem_mem hi)
theorem ms_at {W : World} {a : Option Addr} {n cap : Nat} {l : List Ms} (h : RecAt 6 msL W (.slice a n cap) l) {i : Nat} (hi : i < l.length) : ∃ b o,a = some ⟨b,o,none⟩ ∧ b < W.heap.size ∧ ∀ (j : Nat) (u : Value),(msL (mAt l i))[j]? = some u → W.cell? ⟨b,o + i * 6 + j,none⟩ = some u := by
 obtain ⟨a',cap',h1,h2⟩ := h.ex
 cases h1
 rcases h2 with h2 | ⟨b,o,rfl,hb,hc⟩
 ·subst h2; simp at hi
 ·exact ⟨b,o,rfl,hb,fun j u hu => by rw [mAt_is hi] at hu; exact hc i hi j u hu⟩
theorem sign_eq {t : ByteArray} {F : Nat} (h : F < t.size) : ((t.extract F (F + 1)).toList == [45]) = decide (bt t F = 45) := by
 have e : (t.extract F (F + 1)).toList = [t[F]] := by
  rw [ByteArray.toList_eq]
  apply List.ext_getElem?
  intro j
  rw [ByteArray.data_extract,Array.getElem?_toList]
  cases j with
  | zero => simp [Array.getElem?_extract,h]; exact ⟨by omega,rfl⟩
  | succ j => simp [Array.getElem?_extract]; omega
 rw [e,bt_eq h]
 by_cases hc : t[F] = 45
 ·rw [hc]; rfl
 ·have : ¬ ((t[F].toNat : Int) = 45) := fun h' => hc (UInt8.toNat_inj.1 (by simpa using (show t[F].toNat = 45 by omega)))
  rw [decide_eq_false this]
  simpa using hc
def sgB (t : ByteArray) (m : Ms) : Bool := decide (m.k = 2 ∧ bt t m.f.toNat = 45)

theorem isSign_any (b : Bod) (i : Nat) (w : World) (hA : BodAt w b) (hi : i < b.l.length) : Calls Tryz.prog 269 #[.agg (bodC b),.int .i64 i] w fun e w' => e = .returned (.bool (sgB b.t (mAt b.l i))) ∧ Below w.heap.size w w' := by
 have hB0 := (Below.refl w.heap.size w).alloc (Nat.le_refl _) (.cells (bodC b) 225)
 have hF := hA.fitAt hi
 obtain ⟨a,cap,hv,-⟩ := hA.ms.ex
 have hms := hA.ms
 rw [hv] at hms
 obtain ⟨g,o,ha,hg,hc⟩ := ms_at hms hi
 have hi' : (i : Int) < b.l.length := by omega
 have hc' : ∀ j u,(msL (mAt b.l i))[j]? = some u → (w.alloc (.cells (bodC b) 225)).cell? ⟨g,o + i * 6 + j,none⟩ = some u := fun j u hu => (hB0.cell hg).trans (hc j u hu)
 have hB1 := hB0.alloc hB0.size (.cells (msC (mAt b.l i)) 147)
 obtain ⟨t,mv,pv,l,pd⟩ := b
 simp only at hv
 subst hv ha
 unfold bodC at *
 simp only at *
 obtain ⟨m,hm⟩ : ∃ m,mAt l i = m := ⟨_,rfl⟩
 rw [hm] at hc' hF hB1 ⊢
 obtain ⟨f,tt,k,s,wd,q⟩ := m
 have c0 := hc' 0 _ rfl
 have c1 := hc' 1 _ rfl
 have c2 := hc' 2 _ rfl
 have c3 := hc' 3 _ rfl
 have c4 := hc' 4 _ rfl
 have c5 := hc' 5 _ rfl
 obtain ⟨F,rfl⟩ : ∃ F : Nat,f = F := ⟨f.toNat,by have := hF.f0; simp only at this; omega⟩
 have h0 := hF.ft
 have h1 := hF.ts
 have h2 := hF.one
 unfold msC at hB1
 simp only [Nat.add_zero] at c0 c1 c2 c3 c4 c5 h0 h1 h2 hB1
 unfold sgB
 simp only [Int.toNat_natCast]
 clear hc hc' hm hA hms hF
 by_cases k2 : k = 2
 ·have e := h2 (by omega)
  subst k2 e
  have hsg := sign_eq (t := t) (F := F) (by omega)
  go_enter Tryz.func269,Tryz.ntmps269
  go_wp2_with fail
  go_ret
  exact ⟨rfl,hB1⟩
 ·rw [decide_eq_false (fun h => k2 h.1)]
  have q2 : (k == 2) = false := by simpa using k2
  clear h2 k2
  go_enter Tryz.func269,Tryz.ntmps269
  go_wp2_with fail
  go_ret
  exact ⟨rfl,hB1⟩
end Go.Proofs.YtaphggjakaghjaaGreatDoor
