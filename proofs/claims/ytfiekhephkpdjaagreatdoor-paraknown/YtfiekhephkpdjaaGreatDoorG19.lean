/-
  What is proved here: the drawn regions of stop of least.
-/
import Derived.Test.YtfiekhephkpdjaaGreatDoorG1
import Derived.Test.YtfiekhephkpdjaaGreatDoorG18
namespace Go.Proofs.YtfiekhephkpdjaaGreatDoor
open Go.RowKit Go.Shelf
set_option maxRecDepth 100000
set_option maxHeartbeats 1000000

structure SpX (B b q n : Nat) (a0 : Option Addr) (c0 ga oa ca gb ob cb : Nat) (x y : Su) (W : World) : Prop where
 r : W.heap[B]? = some (.cells #[.slice a0 n c0,.slice (some ⟨ga,oa,none⟩) (n + 1) ca,.slice (some ⟨gb,ob,none⟩) (n + 1) cb] 133 (0,0))
 x : W.rangeAt gb (ob + b * 3) (suL x)
 y : W.rangeAt ga (oa + q * 3) (suL y)
 lb : gb < W.heap.size
 la : ga < W.heap.size
section
variable {B b q n : Nat} {a0 : Option Addr} {c0 ga oa ca gb ob cb : Nat} {x y : Su} {W W' : World}
theorem SpX.lt (h : SpX B b q n a0 c0 ga oa ca gb ob cb x y W) : B < W.heap.size := (Array.getElem?_eq_some_iff.1 h.r).1
theorem SpX.f0 (h : SpX B b q n a0 c0 ga oa ca gb ob cb x y W) : W.cell? ⟨B,0,none⟩ = some (.slice a0 n c0) := by rw [Lib.cell_of_heap h.r]; rfl
theorem SpX.f1 (h : SpX B b q n a0 c0 ga oa ca gb ob cb x y W) : W.cell? ⟨B,1,none⟩ = some (.slice (some ⟨ga,oa,none⟩) (n + 1) ca) := by rw [Lib.cell_of_heap h.r]; rfl
theorem SpX.f2 (h : SpX B b q n a0 c0 ga oa ca gb ob cb x y W) : W.cell? ⟨B,2,none⟩ = some (.slice (some ⟨gb,ob,none⟩) (n + 1) cb) := by rw [Lib.cell_of_heap h.r]; rfl
theorem SpX.below {m : Nat} (h : SpX B b q n a0 c0 ga oa ca gb ob cb x y W) (hb : Below m W W') (hm : W.heap.size ≤ m) : SpX B b q n a0 c0 ga oa ca gb ob cb x y W' :=
 ⟨(hb.block _ (Nat.lt_of_lt_of_le h.lt hm)).trans h.r,fun j u hu => (hb.cell (Nat.lt_of_lt_of_le h.lb hm)).trans (h.x j u hu),fun j u hu => (hb.cell (Nat.lt_of_lt_of_le h.la hm)).trans (h.y j u hu),Nat.lt_of_lt_of_le h.lb hb.size,Nat.lt_of_lt_of_le h.la hb.size⟩
end
theorem stop_below (w : World) (p : St) (z : Array Value) : Below w.heap.size w (((World.drew w).alloc (.cells z 184)).setRow w.heap.size (stL p).toArray) := by
 have h1 : Below w.heap.size w ((World.drew w).alloc (.cells z 184)) := ((Below.refl w.heap.size w).drew).alloc (Nat.le_refl _) _
 exact h1.trans ((Turns.setRow (X := fun k => k = w.heap.size) _ rfl _).below h1.size (fun k hk => by omega))
theorem stop_below2 (w : World) (p : St) (z : Array Value) : Below (World.drew w).heap.size (World.drew w) (((World.drew w).alloc (.cells z 184)).setRow w.heap.size (stL p).toArray) := by
 have h1 : Below w.heap.size (World.drew w) ((World.drew w).alloc (.cells z 184)) := (Below.refl w.heap.size (World.drew w)).alloc (Nat.le_refl _) _
 exact h1.trans ((Turns.setRow (X := fun k => k = w.heap.size) _ rfl _).below h1.size (fun k hk => by omega))
def fr31 (v0 v1 v2 v3 v4 v5 v6 v7 v8 v9 xa xb xc xd xe xf xg xh xi xj xk xl xm xn xo xp xq xr xt xu xv xw xx xy xz xA xB xC xD xE xF xG xH xI xJ xK xL xM xN xO xP xQ xR xS xT xU xV xW xX xY xZ ya yb yc yd ye yf yg : Value) : Act := { tmps := #[v0,v1,v2,v3,v4,v5,v6,v7,v8,v9,xa,xb,xc,xd,xe,xf,xg,xh,xi,xj,xk,xl,xm,xn,xo,xp,xq,xr,xt,xu,xv,xw,xx,xy,xz,xA,xB,xC,xD,xE,xF,xG,xH,xI,xJ,xK,xL,xM,xN,xO,xP,xQ,xR,xS,xT,xU,xV,xW,xX,xY,xZ,ya,yb,yc,yd,ye,yf,yg],defers := [] }
def ops31_2_0 (ps : String) : Oper := ⟨some 11,.move (.tmp 1),3,ps,#[],none⟩
def ops31_2_1 (ps : String) : Oper := ⟨some 12,.move (.tmp 5),3,ps,#[],none⟩
def ops31_2_2 (ps : String) : Oper := ⟨some 13,.fieldAddr 133 (.tmp 2) 2,0,ps,#[],none⟩
def ops31_2_3 (ps : String) : Oper := ⟨some 14,.load 131 (.tmp 13),131,ps,#[⟨2,.data⟩],none⟩
def ops31_2_4 (ps : String) : Oper := ⟨some 15,.move (.tmp 1),3,ps,#[],none⟩
def ops31_2_5 (ps : String) : Oper := ⟨some 16,.indexAddr 131 (.tmp 14) (.tmp 15),0,ps,#[⟨3,.data⟩,⟨4,.data⟩],none⟩
def ops31_2_6 (ps : String) : Oper := ⟨some 17,.load 182 (.tmp 16),182,ps,#[⟨5,.data⟩],none⟩
def ops31_2_7 (ps : String) : Oper := ⟨some 18,.fieldAddr 133 (.tmp 2) 1,0,ps,#[],none⟩
def ops31_2_8 (ps : String) : Oper := ⟨some 19,.load 131 (.tmp 18),131,ps,#[⟨7,.data⟩],none⟩
def ops31_2_9 (ps : String) : Oper := ⟨some 20,.move (.tmp 5),3,ps,#[],none⟩
def ops31_2_10 (ps : String) : Oper := ⟨some 21,.indexAddr 131 (.tmp 19) (.tmp 20),0,ps,#[⟨8,.data⟩,⟨9,.data⟩],none⟩
def ops31_2_11 (ps : String) : Oper := ⟨some 22,.load 182 (.tmp 21),182,ps,#[⟨10,.data⟩],none⟩
def ops31_2_12 (ps : String) : Oper := ⟨some 23,.move (.tmp 1),3,ps,#[],none⟩
def ops31_2_13 (ps : String) : Oper := ⟨some 24,.fieldAddr 133 (.tmp 2) 0,0,ps,#[],none⟩
def ops31_2_14 (ps : String) : Oper := ⟨some 25,.load 48 (.tmp 24),48,ps,#[⟨13,.data⟩],none⟩
def ops31_2_15 (ps : String) : Oper := ⟨some 26,.call ⟨.builtin .len,#[.tmp 25],#[48]⟩,3,ps,#[⟨14,.data⟩],none⟩
def ops31_2_16 (ps : String) : Oper := ⟨some 27,.binOp .eql 3 (.tmp 23) (.tmp 26) 3,4,ps,#[⟨12,.data⟩,⟨15,.data⟩],none⟩
def ops31_2_17 (ps : String) : Oper := ⟨some 28,.build 184 #[(0,.tmp 11),(1,.tmp 12),(2,.tmp 17),(3,.tmp 22),(6,.tmp 27)],184,ps,#[⟨0,.data⟩,⟨1,.data⟩,⟨6,.data⟩,⟨11,.data⟩,⟨16,.data⟩],none⟩
def ops31_2_18 (ps : String) : Oper := ⟨some 6,.alloc 184,0,ps,#[],none⟩
def ops31_2_19 (ps : String) : Oper := ⟨none,.store 184 (.tmp 6) (.tmp 28),0,ps,#[⟨18,.data⟩,⟨17,.data⟩,⟨0,.phase⟩,⟨1,.phase⟩,⟨2,.phase⟩,⟨3,.phase⟩,⟨4,.phase⟩,⟨5,.phase⟩,⟨6,.phase⟩,⟨7,.phase⟩,⟨8,.phase⟩,⟨9,.phase⟩,⟨10,.phase⟩,⟨11,.phase⟩,⟨12,.phase⟩,⟨13,.phase⟩,⟨14,.phase⟩,⟨15,.phase⟩,⟨16,.phase⟩,⟨17,.phase⟩,⟨18,.phase⟩],none⟩
def ops31_2 (ps : String) : Array Oper := #[ops31_2_0 ps,ops31_2_1 ps,ops31_2_2 ps,ops31_2_3 ps,ops31_2_4 ps,ops31_2_5 ps,ops31_2_6 ps,ops31_2_7 ps,ops31_2_8 ps,ops31_2_9 ps,ops31_2_10 ps,ops31_2_11 ps,ops31_2_12 ps,ops31_2_13 ps,ops31_2_14 ps,ops31_2_15 ps,ops31_2_16 ps,ops31_2_17 ps,ops31_2_18 ps,ops31_2_19 ps]

theorem sp_r2 (Q : Exit → Act → World → Prop) (hQ : ∀ c x (n : Nat) v w,Q (.panic c) (x.put (some n) v) w → Q (.panic c) x w) (id : Nat) (ps : String) {v0 v3 v4 v6 v7 v8 v9 xa xb xc xd xe xf xg xh xi xj xk xl xm xn xo xp xq xr xt xu xv xw xx xy xz xA xB xC xD xE xF xG xH xI xJ xK xL xM xN xO xP xQ xR xS xT xU xV xW xX xY xZ ya yb yc yd ye yf yg : Value} (B b q n : Nat) (a0 : Option Addr) (c0 ga oa ca gb ob cb : Nat) (x y : Su) (lst : Bool) (w : World) (hS : SpX B b q n a0 c0 ga oa ca gb ob cb x y (World.drew w))
  (hlst : ((b : Int) == (n : Int)) = lst) (hb : (b : Int) < (n : Int) + 1) (hq0 : (q : Int) < (n : Int) + 1)
  (hq : ∀ w',Below w.heap.size w w' → w'.heap[w.heap.size]? = some (.cells (stL ⟨b,q,x,y,0,false,lst,0⟩).toArray 184 (0,0)) → SpX B b q n a0 c0 ga oa ca gb ob cb x y w' → Q .normal (fr31 v0 (.int .i64 (b : Nat)) (.pointer (some ⟨B,0,none⟩)) v3 v4 (.int .i64 (q : Nat)) (.pointer (some ⟨w.heap.size,0,none⟩)) v7 v8 v9 xa (.int .i64 (b : Nat)) (.int .i64 (q : Nat)) (.pointer (some ⟨B,2,none⟩)) (.slice (some ⟨gb,ob,none⟩) (n + 1) cb) (.int .i64 (b : Nat)) (.pointer (some ⟨gb,ob + b * 3,none⟩)) (.agg (suL x).toArray) (.pointer (some ⟨B,1,none⟩)) (.slice (some ⟨ga,oa,none⟩) (n + 1) ca) (.int .i64 (q : Nat)) (.pointer (some ⟨ga,oa + q * 3,none⟩)) (.agg (suL y).toArray) (.int .i64 (b : Nat)) (.pointer (some ⟨B,0,none⟩)) (.slice a0 n c0) (.int .i64 (n : Nat)) (.bool lst) (.agg (stL ⟨b,q,x,y,0,false,lst,0⟩).toArray) xu xv xw xx xy xz xA xB xC xD xE xF xG xH xI xJ xK xL xM xN xO xP xQ xR xS xT xU xV xW xX xY xZ ya yb yc yd ye yf yg) w') :
  (Code.region id (ops31_2 ps) true).wp Tryz.prog Q (fr31 v0 (.int .i64 (b : Nat)) (.pointer (some ⟨B,0,none⟩)) v3 v4 (.int .i64 (q : Nat)) v6 v7 v8 v9 xa xb xc xd xe xf xg xh xi xj xk xl xm xn xo xp xq xr xt xu xv xw xx xy xz xA xB xC xD xE xF xG xH xI xJ xK xL xM xN xO xP xQ xR xS xT xU xV xW xX xY xZ ya yb yc yd ye yf yg) w := by
 refine wp_region_held (S := SpX B b q n a0 c0 ga oa ca gb ob cb x y) (by kernel_rfl) ?_
 change wpAnyH _ _ _ _ _ 20 _ _ (World.drew w)
 refine take_r 0 ⟨some 11,.move (.tmp 1),3,ps,#[],none⟩ (.int .i64 (b : Nat)) hQ (fun w _ => by kernel_rfl) hS ?_
 refine take_k 1 (ops31_2_1 ps) (.int .i64 (q : Nat)) (fr31 v0 (.int .i64 (b : Nat)) (.pointer (some ⟨B,0,none⟩)) v3 v4 (.int .i64 (q : Nat)) v6 v7 v8 v9 xa (.int .i64 (b : Nat)) (.int .i64 (q : Nat)) xd xe xf xg xh xi xj xk xl xm xn xo xp xq xr xt xu xv xw xx xy xz xA xB xC xD xE xF xG xH xI xJ xK xL xM xN xO xP xQ xR xS xT xU xV xW xX xY xZ ya yb yc yd ye yf yg) hQ (fun w _ => by kernel_rfl) hS ?_
 refine take_r 2 ⟨some 13,.fieldAddr 133 (.tmp 2) 2,0,ps,#[],none⟩ (.pointer (some ⟨B,2,none⟩)) hQ (fun w hS => by unfold fr31; go_simp) hS ?_
 refine take_k 3 (ops31_2_3 ps) (.slice (some ⟨gb,ob,none⟩) (n + 1) cb) (fr31 v0 (.int .i64 (b : Nat)) (.pointer (some ⟨B,0,none⟩)) v3 v4 (.int .i64 (q : Nat)) v6 v7 v8 v9 xa (.int .i64 (b : Nat)) (.int .i64 (q : Nat)) (.pointer (some ⟨B,2,none⟩)) (.slice (some ⟨gb,ob,none⟩) (n + 1) cb) xf xg xh xi xj xk xl xm xn xo xp xq xr xt xu xv xw xx xy xz xA xB xC xD xE xF xG xH xI xJ xK xL xM xN xO xP xQ xR xS xT xU xV xW xX xY xZ ya yb yc yd ye yf yg) hQ (fun w hS => by have e := hS.f2; unfold fr31 ops31_2_3; go_simp) hS ?_
 refine take_r 4 ⟨some 15,.move (.tmp 1),3,ps,#[],none⟩ (.int .i64 (b : Nat)) hQ (fun w _ => by kernel_rfl) hS ?_
 refine take_k 5 (ops31_2_5 ps) (.pointer (some ⟨gb,ob + b * 3,none⟩)) (fr31 v0 (.int .i64 (b : Nat)) (.pointer (some ⟨B,0,none⟩)) v3 v4 (.int .i64 (q : Nat)) v6 v7 v8 v9 xa (.int .i64 (b : Nat)) (.int .i64 (q : Nat)) (.pointer (some ⟨B,2,none⟩)) (.slice (some ⟨gb,ob,none⟩) (n + 1) cb) (.int .i64 (b : Nat)) (.pointer (some ⟨gb,ob + b * 3,none⟩)) xh xi xj xk xl xm xn xo xp xq xr xt xu xv xw xx xy xz xA xB xC xD xE xF xG xH xI xJ xK xL xM xN xO xP xQ xR xS xT xU xV xW xX xY xZ ya yb yc yd ye yf yg) hQ (fun w hS => by unfold fr31 ops31_2_5; go_simp) hS ?_
 refine take_r 6 ⟨some 17,.load 182 (.tmp 16),182,ps,#[⟨5,.data⟩],none⟩ (.agg (suL x).toArray) hQ (fun w hS => exec_load_mid (x := (Operand.tmp 16)) 182 gb (ob + b * 3) (suL x) _ (by kernel_rfl) (by kernel_rfl) hS.x Tryz.underlying182 rfl (info89l x)) hS ?_
 refine take_k 7 (ops31_2_7 ps) (.pointer (some ⟨B,1,none⟩)) (fr31 v0 (.int .i64 (b : Nat)) (.pointer (some ⟨B,0,none⟩)) v3 v4 (.int .i64 (q : Nat)) v6 v7 v8 v9 xa (.int .i64 (b : Nat)) (.int .i64 (q : Nat)) (.pointer (some ⟨B,2,none⟩)) (.slice (some ⟨gb,ob,none⟩) (n + 1) cb) (.int .i64 (b : Nat)) (.pointer (some ⟨gb,ob + b * 3,none⟩)) (.agg (suL x).toArray) (.pointer (some ⟨B,1,none⟩)) xj xk xl xm xn xo xp xq xr xt xu xv xw xx xy xz xA xB xC xD xE xF xG xH xI xJ xK xL xM xN xO xP xQ xR xS xT xU xV xW xX xY xZ ya yb yc yd ye yf yg) hQ (fun w hS => by unfold fr31 ops31_2_7; go_simp) hS ?_
 refine take_r 8 ⟨some 19,.load 131 (.tmp 18),131,ps,#[⟨7,.data⟩],none⟩ (.slice (some ⟨ga,oa,none⟩) (n + 1) ca) hQ (fun w hS => by have e := hS.f1; unfold fr31; go_simp) hS ?_
 refine take_k 9 (ops31_2_9 ps) (.int .i64 (q : Nat)) (fr31 v0 (.int .i64 (b : Nat)) (.pointer (some ⟨B,0,none⟩)) v3 v4 (.int .i64 (q : Nat)) v6 v7 v8 v9 xa (.int .i64 (b : Nat)) (.int .i64 (q : Nat)) (.pointer (some ⟨B,2,none⟩)) (.slice (some ⟨gb,ob,none⟩) (n + 1) cb) (.int .i64 (b : Nat)) (.pointer (some ⟨gb,ob + b * 3,none⟩)) (.agg (suL x).toArray) (.pointer (some ⟨B,1,none⟩)) (.slice (some ⟨ga,oa,none⟩) (n + 1) ca) (.int .i64 (q : Nat)) xl xm xn xo xp xq xr xt xu xv xw xx xy xz xA xB xC xD xE xF xG xH xI xJ xK xL xM xN xO xP xQ xR xS xT xU xV xW xX xY xZ ya yb yc yd ye yf yg) hQ (fun w _ => by kernel_rfl) hS ?_
 refine take_r 10 ⟨some 21,.indexAddr 131 (.tmp 19) (.tmp 20),0,ps,#[⟨8,.data⟩,⟨9,.data⟩],none⟩ (.pointer (some ⟨ga,oa + q * 3,none⟩)) hQ (fun w hS => by unfold fr31; go_simp) hS ?_
 refine take_k 11 (ops31_2_11 ps) (.agg (suL y).toArray) (fr31 v0 (.int .i64 (b : Nat)) (.pointer (some ⟨B,0,none⟩)) v3 v4 (.int .i64 (q : Nat)) v6 v7 v8 v9 xa (.int .i64 (b : Nat)) (.int .i64 (q : Nat)) (.pointer (some ⟨B,2,none⟩)) (.slice (some ⟨gb,ob,none⟩) (n + 1) cb) (.int .i64 (b : Nat)) (.pointer (some ⟨gb,ob + b * 3,none⟩)) (.agg (suL x).toArray) (.pointer (some ⟨B,1,none⟩)) (.slice (some ⟨ga,oa,none⟩) (n + 1) ca) (.int .i64 (q : Nat)) (.pointer (some ⟨ga,oa + q * 3,none⟩)) (.agg (suL y).toArray) xn xo xp xq xr xt xu xv xw xx xy xz xA xB xC xD xE xF xG xH xI xJ xK xL xM xN xO xP xQ xR xS xT xU xV xW xX xY xZ ya yb yc yd ye yf yg) hQ (fun w hS => exec_load_mid (x := (Operand.tmp 21)) 182 ga (oa + q * 3) (suL y) _ (by kernel_rfl) (by kernel_rfl) hS.y Tryz.underlying182 rfl (info89l y)) hS ?_
 refine take_r 12 ⟨some 23,.move (.tmp 1),3,ps,#[],none⟩ (.int .i64 (b : Nat)) hQ (fun w _ => by kernel_rfl) hS ?_
 refine take_k 13 (ops31_2_13 ps) (.pointer (some ⟨B,0,none⟩)) (fr31 v0 (.int .i64 (b : Nat)) (.pointer (some ⟨B,0,none⟩)) v3 v4 (.int .i64 (q : Nat)) v6 v7 v8 v9 xa (.int .i64 (b : Nat)) (.int .i64 (q : Nat)) (.pointer (some ⟨B,2,none⟩)) (.slice (some ⟨gb,ob,none⟩) (n + 1) cb) (.int .i64 (b : Nat)) (.pointer (some ⟨gb,ob + b * 3,none⟩)) (.agg (suL x).toArray) (.pointer (some ⟨B,1,none⟩)) (.slice (some ⟨ga,oa,none⟩) (n + 1) ca) (.int .i64 (q : Nat)) (.pointer (some ⟨ga,oa + q * 3,none⟩)) (.agg (suL y).toArray) (.int .i64 (b : Nat)) (.pointer (some ⟨B,0,none⟩)) xp xq xr xt xu xv xw xx xy xz xA xB xC xD xE xF xG xH xI xJ xK xL xM xN xO xP xQ xR xS xT xU xV xW xX xY xZ ya yb yc yd ye yf yg) hQ (fun w hS => by unfold fr31 ops31_2_13; go_simp) hS ?_
 refine take_r 14 ⟨some 25,.load 48 (.tmp 24),48,ps,#[⟨13,.data⟩],none⟩ (.slice a0 n c0) hQ (fun w hS => by have e := hS.f0; unfold fr31; go_simp) hS ?_
 refine take_k 15 (ops31_2_15 ps) (.int .i64 (n : Nat)) (fr31 v0 (.int .i64 (b : Nat)) (.pointer (some ⟨B,0,none⟩)) v3 v4 (.int .i64 (q : Nat)) v6 v7 v8 v9 xa (.int .i64 (b : Nat)) (.int .i64 (q : Nat)) (.pointer (some ⟨B,2,none⟩)) (.slice (some ⟨gb,ob,none⟩) (n + 1) cb) (.int .i64 (b : Nat)) (.pointer (some ⟨gb,ob + b * 3,none⟩)) (.agg (suL x).toArray) (.pointer (some ⟨B,1,none⟩)) (.slice (some ⟨ga,oa,none⟩) (n + 1) ca) (.int .i64 (q : Nat)) (.pointer (some ⟨ga,oa + q * 3,none⟩)) (.agg (suL y).toArray) (.int .i64 (b : Nat)) (.pointer (some ⟨B,0,none⟩)) (.slice a0 n c0) (.int .i64 (n : Nat)) xr xt xu xv xw xx xy xz xA xB xC xD xE xF xG xH xI xJ xK xL xM xN xO xP xQ xR xS xT xU xV xW xX xY xZ ya yb yc yd ye yf yg) hQ (fun w hS => by unfold fr31 ops31_2_15; go_simp) hS ?_
 refine take_r 16 ⟨some 27,.binOp .eql 3 (.tmp 23) (.tmp 26) 3,4,ps,#[⟨12,.data⟩,⟨15,.data⟩],none⟩ (.bool lst) hQ (fun w hS => by unfold fr31; go_simp) hS ?_
 refine take_k 17 (ops31_2_17 ps) (.agg (stL ⟨b,q,x,y,0,false,lst,0⟩).toArray) (fr31 v0 (.int .i64 (b : Nat)) (.pointer (some ⟨B,0,none⟩)) v3 v4 (.int .i64 (q : Nat)) v6 v7 v8 v9 xa (.int .i64 (b : Nat)) (.int .i64 (q : Nat)) (.pointer (some ⟨B,2,none⟩)) (.slice (some ⟨gb,ob,none⟩) (n + 1) cb) (.int .i64 (b : Nat)) (.pointer (some ⟨gb,ob + b * 3,none⟩)) (.agg (suL x).toArray) (.pointer (some ⟨B,1,none⟩)) (.slice (some ⟨ga,oa,none⟩) (n + 1) ca) (.int .i64 (q : Nat)) (.pointer (some ⟨ga,oa + q * 3,none⟩)) (.agg (suL y).toArray) (.int .i64 (b : Nat)) (.pointer (some ⟨B,0,none⟩)) (.slice a0 n c0) (.int .i64 (n : Nat)) (.bool lst) (.agg (stL ⟨b,q,x,y,0,false,lst,0⟩).toArray) xu xv xw xx xy xz xA xB xC xD xE xF xG xH xI xJ xK xL xM xN xO xP xQ xR xS xT xU xV xW xX xY xZ ya yb yc yd ye yf yg) hQ (fun w hS => by unfold fr31 ops31_2_17; go_simp; try rfl) hS ?_
 refine want_k 18 (ops31_2_18 ps) fun K hK => ?_
 unfold fr31 ops31_2_18
 go_simp
 have hb1 : Below (World.drew w).heap.size (World.drew w) ((World.drew w).alloc (.cells #[.int .i64 0,.int .i64 0,.int .i64 0,.int .i64 0,.int .i64 0,.int .i64 0,.int .i64 0,.int .i64 0,.int .i64 0,.bool false,.bool false,.int .i64 0] 184)) := (Below.refl _ _).alloc (Nat.le_refl _) _
 have hS1 : SpX B b q n a0 c0 ga oa ca gb ob cb x y ((World.drew w).alloc (.cells #[.int .i64 0,.int .i64 0,.int .i64 0,.int .i64 0,.int .i64 0,.int .i64 0,.int .i64 0,.int .i64 0,.int .i64 0,.bool false,.bool false,.int .i64 0] 184)) := hS.below hb1 (Nat.le_refl _)
 refine hK _ _ hS1 (cast_h (fr31 v0 (.int .i64 (b : Nat)) (.pointer (some ⟨B,0,none⟩)) v3 v4 (.int .i64 (q : Nat)) (.pointer (some ⟨w.heap.size,0,none⟩)) v7 v8 v9 xa (.int .i64 (b : Nat)) (.int .i64 (q : Nat)) (.pointer (some ⟨B,2,none⟩)) (.slice (some ⟨gb,ob,none⟩) (n + 1) cb) (.int .i64 (b : Nat)) (.pointer (some ⟨gb,ob + b * 3,none⟩)) (.agg (suL x).toArray) (.pointer (some ⟨B,1,none⟩)) (.slice (some ⟨ga,oa,none⟩) (n + 1) ca) (.int .i64 (q : Nat)) (.pointer (some ⟨ga,oa + q * 3,none⟩)) (.agg (suL y).toArray) (.int .i64 (b : Nat)) (.pointer (some ⟨B,0,none⟩)) (.slice a0 n c0) (.int .i64 (n : Nat)) (.bool lst) (.agg (stL ⟨b,q,x,y,0,false,lst,0⟩).toArray) xu xv xw xx xy xz xA xB xC xD xE xF xG xH xI xJ xK xL xM xN xO xP xQ xR xS xT xU xV xW xX xY xZ ya yb yc yd ye yf yg) (by kernel_rfl) ?_)
 clear hK K
 refine want_k 19 (ops31_2_19 ps) fun K hK => ?_
 refine wp_store_row 184 _ _ (by unfold ops31_2_19; rfl) w.heap.size (stL ⟨b,q,x,y,0,false,lst,0⟩).toArray rfl rfl 184 _ (World.alloc_heap_new (World.drew w) _) (info91 _) rfl (stL_all _) ?_
 have hS2 : SpX B b q n a0 c0 ga oa ca gb ob cb x y (((World.drew w).alloc (.cells #[.int .i64 0,.int .i64 0,.int .i64 0,.int .i64 0,.int .i64 0,.int .i64 0,.int .i64 0,.int .i64 0,.int .i64 0,.bool false,.bool false,.int .i64 0] 184)).setRow w.heap.size (stL ⟨b,q,x,y,0,false,lst,0⟩).toArray) := hS.below (stop_below2 w _ _) (Nat.le_refl _)
 refine hK _ _ hS2 (cast_h (fr31 v0 (.int .i64 (b : Nat)) (.pointer (some ⟨B,0,none⟩)) v3 v4 (.int .i64 (q : Nat)) (.pointer (some ⟨w.heap.size,0,none⟩)) v7 v8 v9 xa (.int .i64 (b : Nat)) (.int .i64 (q : Nat)) (.pointer (some ⟨B,2,none⟩)) (.slice (some ⟨gb,ob,none⟩) (n + 1) cb) (.int .i64 (b : Nat)) (.pointer (some ⟨gb,ob + b * 3,none⟩)) (.agg (suL x).toArray) (.pointer (some ⟨B,1,none⟩)) (.slice (some ⟨ga,oa,none⟩) (n + 1) ca) (.int .i64 (q : Nat)) (.pointer (some ⟨ga,oa + q * 3,none⟩)) (.agg (suL y).toArray) (.int .i64 (b : Nat)) (.pointer (some ⟨B,0,none⟩)) (.slice a0 n c0) (.int .i64 (n : Nat)) (.bool lst) (.agg (stL ⟨b,q,x,y,0,false,lst,0⟩).toArray) xu xv xw xx xy xz xA xB xC xD xE xF xG xH xI xJ xK xL xM xN xO xP xQ xR xS xT xU xV xW xX xY xZ ya yb yc yd ye yf yg) (by kernel_rfl) ?_)
 clear hK K
 exact wpAnyH_done (by kernel_rfl) (hq _ (stop_below w _ _) (setRow_heap _ _ _ _ _ _ (World.alloc_heap_new (World.drew w) _)) hS2) _
structure SpY (B b n : Nat) (g o c0 : Nat) (v1 v2 : Value) (W0 : Int) (C : Int) (y : Bool) (W : World) : Prop where
 r : W.heap[B]? = some (.cells #[.slice (some ⟨g,o,none⟩) n c0,v1,v2] 133 (0,0))
 w : W.cell? ⟨g,o + b * 8 + 3,none⟩ = some (.int .i64 W0)
 c : W.cell? ⟨g,o + b * 8 + 6,none⟩ = some (.int .i64 C)
 y : W.cell? ⟨g,o + b * 8 + 7,none⟩ = some (.bool y)
theorem SpY.f0 {B b n g o c0 : Nat} {v1 v2 : Value} {W0 C : Int} {y : Bool} {W : World} (h : SpY B b n g o c0 v1 v2 W0 C y W) : W.cell? ⟨B,0,none⟩ = some (.slice (some ⟨g,o,none⟩) n c0) := by rw [Lib.cell_of_heap h.r]; rfl
theorem SpY.set {B b n g o c0 : Nat} {v1 v2 : Value} {W0 C : Int} {y : Bool} {W : World} (h : SpY B b n g o c0 v1 v2 W0 C y W) {T k : Nat} (h1 : B ≠ T) (h2 : g ≠ T) (u : Value) : SpY B b n g o c0 v1 v2 W0 C y (W.setCell ⟨T,k,none⟩ u) := by
 have e : ∀ j,(W.setCell ⟨T,k,none⟩ u).cell? ⟨g,j,none⟩ = W.cell? ⟨g,j,none⟩ := fun j => by
  have := Below.heap_setCell W ⟨T,k,none⟩ u g h2
  unfold World.cell?
  simp only [this]
 exact ⟨(Below.heap_setCell W ⟨T,k,none⟩ u B h1).trans h.r,(e _).trans h.w,(e _).trans h.c,(e _).trans h.y⟩
def ops31_4_0 (ps : String) : Oper := ⟨some 41,.fieldAddr 184 (.tmp 6) 2,0,ps,#[],none⟩
def ops31_4_1 (ps : String) : Oper := ⟨some 42,.fieldAddr 182 (.tmp 41) 0,0,ps,#[⟨0,.data⟩],none⟩
def ops31_4_2 (ps : String) : Oper := ⟨some 43,.load 3 (.tmp 42),3,ps,#[⟨1,.data⟩],none⟩
def ops31_4_3 (ps : String) : Oper := ⟨some 44,.fieldAddr 133 (.tmp 2) 0,0,ps,#[],none⟩
def ops31_4_4 (ps : String) : Oper := ⟨some 45,.load 48 (.tmp 44),48,ps,#[⟨3,.data⟩],none⟩
def ops31_4_5 (ps : String) : Oper := ⟨some 46,.move (.tmp 1),3,ps,#[],none⟩
def ops31_4_6 (ps : String) : Oper := ⟨some 47,.indexAddr 48 (.tmp 45) (.tmp 46),0,ps,#[⟨4,.data⟩,⟨5,.data⟩],none⟩
def ops31_4_7 (ps : String) : Oper := ⟨some 48,.fieldAddr 68 (.tmp 47) 3,0,ps,#[⟨6,.data⟩],none⟩
def ops31_4_8 (ps : String) : Oper := ⟨some 49,.load 3 (.tmp 48),3,ps,#[⟨7,.data⟩],none⟩
def ops31_4_9 (ps : String) : Oper := ⟨some 50,.binOp .add 3 (.tmp 43) (.tmp 49) 3,3,ps,#[⟨2,.data⟩,⟨8,.data⟩],none⟩
def ops31_4_10 (ps : String) : Oper := ⟨some 51,.fieldAddr 184 (.tmp 6) 2,0,ps,#[⟨0,.phase⟩,⟨1,.phase⟩,⟨2,.phase⟩,⟨3,.phase⟩,⟨4,.phase⟩,⟨5,.phase⟩,⟨6,.phase⟩,⟨7,.phase⟩,⟨8,.phase⟩,⟨9,.phase⟩],none⟩
def ops31_4_11 (ps : String) : Oper := ⟨some 52,.fieldAddr 182 (.tmp 51) 0,0,ps,#[⟨10,.data⟩,⟨0,.phase⟩,⟨1,.phase⟩,⟨2,.phase⟩,⟨3,.phase⟩,⟨4,.phase⟩,⟨5,.phase⟩,⟨6,.phase⟩,⟨7,.phase⟩,⟨8,.phase⟩,⟨9,.phase⟩],none⟩
def ops31_4_12 (ps : String) : Oper := ⟨none,.store 3 (.tmp 52) (.tmp 50),0,ps,#[⟨11,.data⟩,⟨9,.data⟩,⟨0,.phase⟩,⟨1,.phase⟩,⟨2,.phase⟩,⟨3,.phase⟩,⟨4,.phase⟩,⟨5,.phase⟩,⟨6,.phase⟩,⟨7,.phase⟩,⟨8,.phase⟩,⟨9,.phase⟩],none⟩
def ops31_4 (ps : String) : Array Oper := #[ops31_4_0 ps,ops31_4_1 ps,ops31_4_2 ps,ops31_4_3 ps,ops31_4_4 ps,ops31_4_5 ps,ops31_4_6 ps,ops31_4_7 ps,ops31_4_8 ps,ops31_4_9 ps,ops31_4_10 ps,ops31_4_11 ps,ops31_4_12 ps]

theorem sp_r4 (Q : Exit → Act → World → Prop) (hQ : ∀ c x (n : Nat) v w,Q (.panic c) (x.put (some n) v) w → Q (.panic c) x w) (id : Nat) (ps : String) {v0 v3 v4 v5 v7 v8 v9 xa xb xc xd xe xf xg xh xi xj xk xl xm xn xo xp xq xr xt xu xv xw xx xy xz xA xB xC xD xE xF xG xH xI xJ xK xL xM xN xO xP xQ xR xS xT xU xV xW xX xY xZ ya yb yc yd ye yf yg : Value} (B b n g o c0 : Nat) (v1 v2 : Value) (W0 C : Int) (y : Bool) (T : Nat) (p : St) (w : World) (hS : SpY B b n g o c0 v1 v2 W0 C y (World.drew w))
  (hT : (World.drew w).heap[T]? = some (.cells (stL p).toArray 184 (0,0))) (h1 : B ≠ T) (h2 : g ≠ T) (hb : (b : Int) < (n : Int)) (k1 : -8589934592 ≤ p.e.w) (k2 : p.e.w ≤ 8589934592) (k3 : 0 ≤ W0) (k4 : W0 ≤ 524288)
  (hq : Q .normal (fr31 v0 (.int .i64 (b : Nat)) (.pointer (some ⟨B,0,none⟩)) v3 v4 v5 (.pointer (some ⟨T,0,none⟩)) v7 v8 v9 xa xb xc xd xe xf xg xh xi xj xk xl xm xn xo xp xq xr xt xu xv xw xx xy xz xA xB xC xD xE xF (.pointer (some ⟨T,2,none⟩)) (.pointer (some ⟨T,2,none⟩)) (.int .i64 p.e.w) (.pointer (some ⟨B,0,none⟩)) (.slice (some ⟨g,o,none⟩) n c0) (.int .i64 (b : Nat)) (.pointer (some ⟨g,o + b * 8,none⟩)) (.pointer (some ⟨g,o + b * 8 + 3,none⟩)) (.int .i64 W0) (.int .i64 (p.e.w + W0)) (.pointer (some ⟨T,2,none⟩)) (.pointer (some ⟨T,2,none⟩)) xS xT xU xV xW xX xY xZ ya yb yc yd ye yf yg) ((World.drew w).setCell ⟨T,2,none⟩ (.int .i64 (p.e.w + W0)))) :
  (Code.region id (ops31_4 ps) true).wp Tryz.prog Q (fr31 v0 (.int .i64 (b : Nat)) (.pointer (some ⟨B,0,none⟩)) v3 v4 v5 (.pointer (some ⟨T,0,none⟩)) v7 v8 v9 xa xb xc xd xe xf xg xh xi xj xk xl xm xn xo xp xq xr xt xu xv xw xx xy xz xA xB xC xD xE xF xG xH xI xJ xK xL xM xN xO xP xQ xR xS xT xU xV xW xX xY xZ ya yb yc yd ye yf yg) w := by
 refine wp_region_held (S := SpY B b n g o c0 v1 v2 W0 C y) (by kernel_rfl) ?_
 change wpAnyH _ _ _ _ _ 13 _ _ (World.drew w)
 refine take_r 0 ⟨some 41,.fieldAddr 184 (.tmp 6) 2,0,ps,#[],none⟩ (.pointer (some ⟨T,2,none⟩)) hQ (fun w hS => by unfold fr31; go_simp) hS ?_
 refine take_k 1 (ops31_4_1 ps) (.pointer (some ⟨T,2,none⟩)) (fr31 v0 (.int .i64 (b : Nat)) (.pointer (some ⟨B,0,none⟩)) v3 v4 v5 (.pointer (some ⟨T,0,none⟩)) v7 v8 v9 xa xb xc xd xe xf xg xh xi xj xk xl xm xn xo xp xq xr xt xu xv xw xx xy xz xA xB xC xD xE xF (.pointer (some ⟨T,2,none⟩)) (.pointer (some ⟨T,2,none⟩)) xI xJ xK xL xM xN xO xP xQ xR xS xT xU xV xW xX xY xZ ya yb yc yd ye yf yg) hQ (fun w hS => by unfold fr31 ops31_4_1; go_simp) hS ?_
 refine take_r 3 ⟨some 44,.fieldAddr 133 (.tmp 2) 0,0,ps,#[],none⟩ (.pointer (some ⟨B,0,none⟩)) hQ (fun w hS => by unfold fr31; go_simp) hS ?_
 refine take_k 4 (ops31_4_4 ps) (.slice (some ⟨g,o,none⟩) n c0) (fr31 v0 (.int .i64 (b : Nat)) (.pointer (some ⟨B,0,none⟩)) v3 v4 v5 (.pointer (some ⟨T,0,none⟩)) v7 v8 v9 xa xb xc xd xe xf xg xh xi xj xk xl xm xn xo xp xq xr xt xu xv xw xx xy xz xA xB xC xD xE xF (.pointer (some ⟨T,2,none⟩)) (.pointer (some ⟨T,2,none⟩)) xI (.pointer (some ⟨B,0,none⟩)) (.slice (some ⟨g,o,none⟩) n c0) xL xM xN xO xP xQ xR xS xT xU xV xW xX xY xZ ya yb yc yd ye yf yg) hQ (fun w hS => by have e := hS.f0; unfold fr31 ops31_4_4; go_simp) hS ?_
 refine take_r 5 ⟨some 46,.move (.tmp 1),3,ps,#[],none⟩ (.int .i64 (b : Nat)) hQ (fun w _ => by kernel_rfl) hS ?_
 refine take_k 6 (ops31_4_6 ps) (.pointer (some ⟨g,o + b * 8,none⟩)) (fr31 v0 (.int .i64 (b : Nat)) (.pointer (some ⟨B,0,none⟩)) v3 v4 v5 (.pointer (some ⟨T,0,none⟩)) v7 v8 v9 xa xb xc xd xe xf xg xh xi xj xk xl xm xn xo xp xq xr xt xu xv xw xx xy xz xA xB xC xD xE xF (.pointer (some ⟨T,2,none⟩)) (.pointer (some ⟨T,2,none⟩)) xI (.pointer (some ⟨B,0,none⟩)) (.slice (some ⟨g,o,none⟩) n c0) (.int .i64 (b : Nat)) (.pointer (some ⟨g,o + b * 8,none⟩)) xN xO xP xQ xR xS xT xU xV xW xX xY xZ ya yb yc yd ye yf yg) hQ (fun w hS => by unfold fr31 ops31_4_6; go_simp) hS ?_
 refine take_r 7 ⟨some 48,.fieldAddr 68 (.tmp 47) 3,0,ps,#[⟨6,.data⟩],none⟩ (.pointer (some ⟨g,o + b * 8 + 3,none⟩)) hQ (fun w hS => by unfold fr31; go_simp) hS ?_
 refine take_k 8 (ops31_4_8 ps) (.int .i64 W0) (fr31 v0 (.int .i64 (b : Nat)) (.pointer (some ⟨B,0,none⟩)) v3 v4 v5 (.pointer (some ⟨T,0,none⟩)) v7 v8 v9 xa xb xc xd xe xf xg xh xi xj xk xl xm xn xo xp xq xr xt xu xv xw xx xy xz xA xB xC xD xE xF (.pointer (some ⟨T,2,none⟩)) (.pointer (some ⟨T,2,none⟩)) xI (.pointer (some ⟨B,0,none⟩)) (.slice (some ⟨g,o,none⟩) n c0) (.int .i64 (b : Nat)) (.pointer (some ⟨g,o + b * 8,none⟩)) (.pointer (some ⟨g,o + b * 8 + 3,none⟩)) (.int .i64 W0) xP xQ xR xS xT xU xV xW xX xY xZ ya yb yc yd ye yf yg) hQ (fun w hS => by have e := hS.w; unfold fr31 ops31_4_8; go_simp) hS ?_
 refine want_k 2 (ops31_4_2 ps) fun K hK => ?_
 have hc : (World.drew w).cell? ⟨T,2,none⟩ = some (.int .i64 p.e.w) := by rw [Lib.cell_of_heap hT]; rfl
 unfold fr31 ops31_4_2
 go_simp
 refine hK _ _ hS (cast_h (fr31 v0 (.int .i64 (b : Nat)) (.pointer (some ⟨B,0,none⟩)) v3 v4 v5 (.pointer (some ⟨T,0,none⟩)) v7 v8 v9 xa xb xc xd xe xf xg xh xi xj xk xl xm xn xo xp xq xr xt xu xv xw xx xy xz xA xB xC xD xE xF (.pointer (some ⟨T,2,none⟩)) (.pointer (some ⟨T,2,none⟩)) (.int .i64 p.e.w) (.pointer (some ⟨B,0,none⟩)) (.slice (some ⟨g,o,none⟩) n c0) (.int .i64 (b : Nat)) (.pointer (some ⟨g,o + b * 8,none⟩)) (.pointer (some ⟨g,o + b * 8 + 3,none⟩)) (.int .i64 W0) xP xQ xR xS xT xU xV xW xX xY xZ ya yb yc yd ye yf yg) (by kernel_rfl) ?_)
 clear hK K
 refine take_r 9 ⟨some 50,.binOp .add 3 (.tmp 43) (.tmp 49) 3,3,ps,#[⟨2,.data⟩,⟨8,.data⟩],none⟩ (.int .i64 (p.e.w + W0)) hQ (fun w hS => by unfold fr31; go_simp; try exact wrap_i (by omega) (by omega)) hS ?_
 refine take_k 10 (ops31_4_10 ps) (.pointer (some ⟨T,2,none⟩)) (fr31 v0 (.int .i64 (b : Nat)) (.pointer (some ⟨B,0,none⟩)) v3 v4 v5 (.pointer (some ⟨T,0,none⟩)) v7 v8 v9 xa xb xc xd xe xf xg xh xi xj xk xl xm xn xo xp xq xr xt xu xv xw xx xy xz xA xB xC xD xE xF (.pointer (some ⟨T,2,none⟩)) (.pointer (some ⟨T,2,none⟩)) (.int .i64 p.e.w) (.pointer (some ⟨B,0,none⟩)) (.slice (some ⟨g,o,none⟩) n c0) (.int .i64 (b : Nat)) (.pointer (some ⟨g,o + b * 8,none⟩)) (.pointer (some ⟨g,o + b * 8 + 3,none⟩)) (.int .i64 W0) (.int .i64 (p.e.w + W0)) (.pointer (some ⟨T,2,none⟩)) xR xS xT xU xV xW xX xY xZ ya yb yc yd ye yf yg) hQ (fun w hS => by unfold fr31 ops31_4_10; go_simp) hS ?_
 refine take_r 11 ⟨some 52,.fieldAddr 182 (.tmp 51) 0,0,ps,#[⟨10,.data⟩,⟨0,.phase⟩,⟨1,.phase⟩,⟨2,.phase⟩,⟨3,.phase⟩,⟨4,.phase⟩,⟨5,.phase⟩,⟨6,.phase⟩,⟨7,.phase⟩,⟨8,.phase⟩,⟨9,.phase⟩],none⟩ (.pointer (some ⟨T,2,none⟩)) hQ (fun w hS => by unfold fr31; go_simp) hS ?_
 refine want_k 12 (ops31_4_12 ps) fun K hK => ?_
 have hc : (World.drew w).cell? ⟨T,2,none⟩ = some (.int .i64 p.e.w) := by rw [Lib.cell_of_heap hT]; rfl
 have hf : (World.drew w).frozen? ⟨T,2,none⟩ = false := Lib.frozen_of_heap hT _
 have hS2 : SpY B b n g o c0 v1 v2 W0 C y ((World.drew w).setCell ⟨T,2,none⟩ (.int .i64 (p.e.w + W0))) := hS.set h1 h2 _
 unfold fr31 ops31_4_12
 go_simp
 refine hK _ _ hS2 (cast_h (fr31 v0 (.int .i64 (b : Nat)) (.pointer (some ⟨B,0,none⟩)) v3 v4 v5 (.pointer (some ⟨T,0,none⟩)) v7 v8 v9 xa xb xc xd xe xf xg xh xi xj xk xl xm xn xo xp xq xr xt xu xv xw xx xy xz xA xB xC xD xE xF (.pointer (some ⟨T,2,none⟩)) (.pointer (some ⟨T,2,none⟩)) (.int .i64 p.e.w) (.pointer (some ⟨B,0,none⟩)) (.slice (some ⟨g,o,none⟩) n c0) (.int .i64 (b : Nat)) (.pointer (some ⟨g,o + b * 8,none⟩)) (.pointer (some ⟨g,o + b * 8 + 3,none⟩)) (.int .i64 W0) (.int .i64 (p.e.w + W0)) (.pointer (some ⟨T,2,none⟩)) (.pointer (some ⟨T,2,none⟩)) xS xT xU xV xW xX xY xZ ya yb yc yd ye yf yg) (by kernel_rfl) ?_)
 clear hK K
 exact wpAnyH_done (by kernel_rfl) hq _
def ops31_5_0 (ps : String) : Oper := ⟨some 53,.fieldAddr 133 (.tmp 2) 0,0,ps,#[],none⟩
def ops31_5_1 (ps : String) : Oper := ⟨some 54,.load 48 (.tmp 53),48,ps,#[⟨0,.data⟩],none⟩
def ops31_5_2 (ps : String) : Oper := ⟨some 55,.move (.tmp 1),3,ps,#[],none⟩
def ops31_5_3 (ps : String) : Oper := ⟨some 56,.indexAddr 48 (.tmp 54) (.tmp 55),0,ps,#[⟨1,.data⟩,⟨2,.data⟩],none⟩
def ops31_5_4 (ps : String) : Oper := ⟨some 57,.fieldAddr 68 (.tmp 56) 6,0,ps,#[⟨3,.data⟩],none⟩
def ops31_5_5 (ps : String) : Oper := ⟨some 58,.load 3 (.tmp 57),3,ps,#[⟨4,.data⟩],none⟩
def ops31_5_6 (ps : String) : Oper := ⟨some 59,.fieldAddr 133 (.tmp 2) 0,0,ps,#[⟨13,.gcOnly .lateStores⟩],none⟩
def ops31_5_7 (ps : String) : Oper := ⟨some 60,.load 48 (.tmp 59),48,ps,#[⟨6,.data⟩,⟨13,.gcOnly .lateStores⟩],none⟩
def ops31_5_8 (ps : String) : Oper := ⟨some 61,.move (.tmp 1),3,ps,#[⟨13,.gcOnly .lateStores⟩],none⟩
def ops31_5_9 (ps : String) : Oper := ⟨some 62,.indexAddr 48 (.tmp 60) (.tmp 61),0,ps,#[⟨7,.data⟩,⟨8,.data⟩,⟨13,.gcOnly .lateStores⟩],none⟩
def ops31_5_10 (ps : String) : Oper := ⟨some 63,.fieldAddr 68 (.tmp 62) 7,0,ps,#[⟨9,.data⟩,⟨13,.gcOnly .lateStores⟩],none⟩
def ops31_5_11 (ps : String) : Oper := ⟨some 64,.load 4 (.tmp 63),4,ps,#[⟨10,.data⟩,⟨13,.gcOnly .lateStores⟩],none⟩
def ops31_5_12 (ps : String) : Oper := ⟨some 65,.fieldAddr 184 (.tmp 6) 4,0,ps,#[⟨0,.phase⟩,⟨1,.phase⟩,⟨2,.phase⟩,⟨3,.phase⟩,⟨4,.phase⟩,⟨5,.phase⟩,⟨6,.textOnly .lateStores⟩,⟨7,.textOnly .lateStores⟩,⟨8,.textOnly .lateStores⟩,⟨9,.textOnly .lateStores⟩,⟨10,.textOnly .lateStores⟩,⟨11,.textOnly .lateStores⟩],none⟩
def ops31_5_13 (ps : String) : Oper := ⟨none,.store 3 (.tmp 65) (.tmp 58),0,ps,#[⟨12,.data⟩,⟨5,.data⟩,⟨0,.phase⟩,⟨1,.phase⟩,⟨2,.phase⟩,⟨3,.phase⟩,⟨4,.phase⟩,⟨5,.phase⟩,⟨6,.textOnly .lateStores⟩,⟨7,.textOnly .lateStores⟩,⟨8,.textOnly .lateStores⟩,⟨9,.textOnly .lateStores⟩,⟨10,.textOnly .lateStores⟩,⟨11,.textOnly .lateStores⟩],none⟩
def ops31_5_14 (ps : String) : Oper := ⟨some 66,.fieldAddr 184 (.tmp 6) 5,0,ps,#[⟨0,.phase⟩,⟨1,.phase⟩,⟨2,.phase⟩,⟨3,.phase⟩,⟨4,.phase⟩,⟨5,.phase⟩,⟨6,.phase⟩,⟨7,.phase⟩,⟨8,.phase⟩,⟨9,.phase⟩,⟨10,.phase⟩,⟨11,.phase⟩,⟨12,.phase⟩,⟨13,.phase⟩],none⟩
def ops31_5_15 (ps : String) : Oper := ⟨none,.store 4 (.tmp 66) (.tmp 64),0,ps,#[⟨14,.data⟩,⟨11,.data⟩,⟨13,.chain⟩,⟨0,.phase⟩,⟨1,.phase⟩,⟨2,.phase⟩,⟨3,.phase⟩,⟨4,.phase⟩,⟨5,.phase⟩,⟨6,.phase⟩,⟨7,.phase⟩,⟨8,.phase⟩,⟨9,.phase⟩,⟨10,.phase⟩,⟨11,.phase⟩,⟨12,.phase⟩,⟨13,.phase⟩],none⟩
def ops31_5 (ps : String) : Array Oper := #[ops31_5_0 ps,ops31_5_1 ps,ops31_5_2 ps,ops31_5_3 ps,ops31_5_4 ps,ops31_5_5 ps,ops31_5_6 ps,ops31_5_7 ps,ops31_5_8 ps,ops31_5_9 ps,ops31_5_10 ps,ops31_5_11 ps,ops31_5_12 ps,ops31_5_13 ps,ops31_5_14 ps,ops31_5_15 ps]

theorem sp_r5 (Q : Exit → Act → World → Prop) (hQ : ∀ c x (n : Nat) v w,Q (.panic c) (x.put (some n) v) w → Q (.panic c) x w) (id : Nat) (ps : String) {v0 v3 v4 v5 v7 v8 v9 xa xb xc xd xe xf xg xh xi xj xk xl xm xn xo xp xq xr xt xu xv xw xx xy xz xA xB xC xD xE xF xG xH xI xJ xK xL xM xN xO xP xQ xR xS xT xU xV xW xX xY xZ ya yb yc yd ye yf yg : Value} (B b n g o c0 : Nat) (v1 v2 : Value) (W0 C : Int) (y : Bool) (T : Nat) (p : St) (w : World) (hS : SpY B b n g o c0 v1 v2 W0 C y (World.drew w))
  (hT : (World.drew w).heap[T]? = some (.cells (stL p).toArray 184 (0,0))) (h1 : B ≠ T) (h2 : g ≠ T) (hb : (b : Int) < (n : Int))
  (hq : ∀ w',Turns (fun k => k = T) w w' → w'.heap[T]? = some (.cells (stL { p with c := C,y := y }).toArray 184 (0,0)) → Q .normal (fr31 v0 (.int .i64 (b : Nat)) (.pointer (some ⟨B,0,none⟩)) v3 v4 v5 (.pointer (some ⟨T,0,none⟩)) v7 v8 v9 xa xb xc xd xe xf xg xh xi xj xk xl xm xn xo xp xq xr xt xu xv xw xx xy xz xA xB xC xD xE xF xG xH xI xJ xK xL xM xN xO xP xQ xR (.pointer (some ⟨B,0,none⟩)) (.slice (some ⟨g,o,none⟩) n c0) (.int .i64 (b : Nat)) (.pointer (some ⟨g,o + b * 8,none⟩)) (.pointer (some ⟨g,o + b * 8 + 6,none⟩)) (.int .i64 C) (.pointer (some ⟨B,0,none⟩)) (.slice (some ⟨g,o,none⟩) n c0) (.int .i64 (b : Nat)) (.pointer (some ⟨g,o + b * 8,none⟩)) (.pointer (some ⟨g,o + b * 8 + 7,none⟩)) (.bool y) (.pointer (some ⟨T,8,none⟩)) (.pointer (some ⟨T,9,none⟩)) yg) w') :
  (Code.region id (ops31_5 ps) true).wp Tryz.prog Q (fr31 v0 (.int .i64 (b : Nat)) (.pointer (some ⟨B,0,none⟩)) v3 v4 v5 (.pointer (some ⟨T,0,none⟩)) v7 v8 v9 xa xb xc xd xe xf xg xh xi xj xk xl xm xn xo xp xq xr xt xu xv xw xx xy xz xA xB xC xD xE xF xG xH xI xJ xK xL xM xN xO xP xQ xR xS xT xU xV xW xX xY xZ ya yb yc yd ye yf yg) w := by
 refine wp_region_held (S := SpY B b n g o c0 v1 v2 W0 C y) (by kernel_rfl) ?_
 change wpAnyH _ _ _ _ _ 16 _ _ (World.drew w)
 refine take_r 0 ⟨some 53,.fieldAddr 133 (.tmp 2) 0,0,ps,#[],none⟩ (.pointer (some ⟨B,0,none⟩)) hQ (fun w hS => by unfold fr31; go_simp) hS ?_
 refine take_k 1 (ops31_5_1 ps) (.slice (some ⟨g,o,none⟩) n c0) (fr31 v0 (.int .i64 (b : Nat)) (.pointer (some ⟨B,0,none⟩)) v3 v4 v5 (.pointer (some ⟨T,0,none⟩)) v7 v8 v9 xa xb xc xd xe xf xg xh xi xj xk xl xm xn xo xp xq xr xt xu xv xw xx xy xz xA xB xC xD xE xF xG xH xI xJ xK xL xM xN xO xP xQ xR (.pointer (some ⟨B,0,none⟩)) (.slice (some ⟨g,o,none⟩) n c0) xU xV xW xX xY xZ ya yb yc yd ye yf yg) hQ (fun w hS => by have e := hS.f0; unfold fr31 ops31_5_1; go_simp) hS ?_
 refine take_r 2 ⟨some 55,.move (.tmp 1),3,ps,#[],none⟩ (.int .i64 (b : Nat)) hQ (fun w _ => by kernel_rfl) hS ?_
 refine take_k 3 (ops31_5_3 ps) (.pointer (some ⟨g,o + b * 8,none⟩)) (fr31 v0 (.int .i64 (b : Nat)) (.pointer (some ⟨B,0,none⟩)) v3 v4 v5 (.pointer (some ⟨T,0,none⟩)) v7 v8 v9 xa xb xc xd xe xf xg xh xi xj xk xl xm xn xo xp xq xr xt xu xv xw xx xy xz xA xB xC xD xE xF xG xH xI xJ xK xL xM xN xO xP xQ xR (.pointer (some ⟨B,0,none⟩)) (.slice (some ⟨g,o,none⟩) n c0) (.int .i64 (b : Nat)) (.pointer (some ⟨g,o + b * 8,none⟩)) xW xX xY xZ ya yb yc yd ye yf yg) hQ (fun w hS => by unfold fr31 ops31_5_3; go_simp) hS ?_
 refine take_r 4 ⟨some 57,.fieldAddr 68 (.tmp 56) 6,0,ps,#[⟨3,.data⟩],none⟩ (.pointer (some ⟨g,o + b * 8 + 6,none⟩)) hQ (fun w hS => by unfold fr31; go_simp) hS ?_
 refine take_k 5 (ops31_5_5 ps) (.int .i64 C) (fr31 v0 (.int .i64 (b : Nat)) (.pointer (some ⟨B,0,none⟩)) v3 v4 v5 (.pointer (some ⟨T,0,none⟩)) v7 v8 v9 xa xb xc xd xe xf xg xh xi xj xk xl xm xn xo xp xq xr xt xu xv xw xx xy xz xA xB xC xD xE xF xG xH xI xJ xK xL xM xN xO xP xQ xR (.pointer (some ⟨B,0,none⟩)) (.slice (some ⟨g,o,none⟩) n c0) (.int .i64 (b : Nat)) (.pointer (some ⟨g,o + b * 8,none⟩)) (.pointer (some ⟨g,o + b * 8 + 6,none⟩)) (.int .i64 C) xY xZ ya yb yc yd ye yf yg) hQ (fun w hS => by have e := hS.c; unfold fr31 ops31_5_5; go_simp) hS ?_
 refine take_r 6 ⟨some 59,.fieldAddr 133 (.tmp 2) 0,0,ps,#[⟨13,.gcOnly .lateStores⟩],none⟩ (.pointer (some ⟨B,0,none⟩)) hQ (fun w hS => by unfold fr31; go_simp) hS ?_
 refine take_k 7 (ops31_5_7 ps) (.slice (some ⟨g,o,none⟩) n c0) (fr31 v0 (.int .i64 (b : Nat)) (.pointer (some ⟨B,0,none⟩)) v3 v4 v5 (.pointer (some ⟨T,0,none⟩)) v7 v8 v9 xa xb xc xd xe xf xg xh xi xj xk xl xm xn xo xp xq xr xt xu xv xw xx xy xz xA xB xC xD xE xF xG xH xI xJ xK xL xM xN xO xP xQ xR (.pointer (some ⟨B,0,none⟩)) (.slice (some ⟨g,o,none⟩) n c0) (.int .i64 (b : Nat)) (.pointer (some ⟨g,o + b * 8,none⟩)) (.pointer (some ⟨g,o + b * 8 + 6,none⟩)) (.int .i64 C) (.pointer (some ⟨B,0,none⟩)) (.slice (some ⟨g,o,none⟩) n c0) ya yb yc yd ye yf yg) hQ (fun w hS => by have e := hS.f0; unfold fr31 ops31_5_7; go_simp) hS ?_
 refine take_r 8 ⟨some 61,.move (.tmp 1),3,ps,#[⟨13,.gcOnly .lateStores⟩],none⟩ (.int .i64 (b : Nat)) hQ (fun w _ => by kernel_rfl) hS ?_
 refine take_k 9 (ops31_5_9 ps) (.pointer (some ⟨g,o + b * 8,none⟩)) (fr31 v0 (.int .i64 (b : Nat)) (.pointer (some ⟨B,0,none⟩)) v3 v4 v5 (.pointer (some ⟨T,0,none⟩)) v7 v8 v9 xa xb xc xd xe xf xg xh xi xj xk xl xm xn xo xp xq xr xt xu xv xw xx xy xz xA xB xC xD xE xF xG xH xI xJ xK xL xM xN xO xP xQ xR (.pointer (some ⟨B,0,none⟩)) (.slice (some ⟨g,o,none⟩) n c0) (.int .i64 (b : Nat)) (.pointer (some ⟨g,o + b * 8,none⟩)) (.pointer (some ⟨g,o + b * 8 + 6,none⟩)) (.int .i64 C) (.pointer (some ⟨B,0,none⟩)) (.slice (some ⟨g,o,none⟩) n c0) (.int .i64 (b : Nat)) (.pointer (some ⟨g,o + b * 8,none⟩)) yc yd ye yf yg) hQ (fun w hS => by unfold fr31 ops31_5_9; go_simp) hS ?_
 refine take_r 10 ⟨some 63,.fieldAddr 68 (.tmp 62) 7,0,ps,#[⟨9,.data⟩,⟨13,.gcOnly .lateStores⟩],none⟩ (.pointer (some ⟨g,o + b * 8 + 7,none⟩)) hQ (fun w hS => by unfold fr31; go_simp) hS ?_
 refine take_k 11 (ops31_5_11 ps) (.bool y) (fr31 v0 (.int .i64 (b : Nat)) (.pointer (some ⟨B,0,none⟩)) v3 v4 v5 (.pointer (some ⟨T,0,none⟩)) v7 v8 v9 xa xb xc xd xe xf xg xh xi xj xk xl xm xn xo xp xq xr xt xu xv xw xx xy xz xA xB xC xD xE xF xG xH xI xJ xK xL xM xN xO xP xQ xR (.pointer (some ⟨B,0,none⟩)) (.slice (some ⟨g,o,none⟩) n c0) (.int .i64 (b : Nat)) (.pointer (some ⟨g,o + b * 8,none⟩)) (.pointer (some ⟨g,o + b * 8 + 6,none⟩)) (.int .i64 C) (.pointer (some ⟨B,0,none⟩)) (.slice (some ⟨g,o,none⟩) n c0) (.int .i64 (b : Nat)) (.pointer (some ⟨g,o + b * 8,none⟩)) (.pointer (some ⟨g,o + b * 8 + 7,none⟩)) (.bool y) ye yf yg) hQ (fun w hS => by have e := hS.y; unfold fr31 ops31_5_11; go_simp) hS ?_
 refine take_r 12 ⟨some 65,.fieldAddr 184 (.tmp 6) 4,0,ps,#[⟨0,.phase⟩,⟨1,.phase⟩,⟨2,.phase⟩,⟨3,.phase⟩,⟨4,.phase⟩,⟨5,.phase⟩,⟨6,.textOnly .lateStores⟩,⟨7,.textOnly .lateStores⟩,⟨8,.textOnly .lateStores⟩,⟨9,.textOnly .lateStores⟩,⟨10,.textOnly .lateStores⟩,⟨11,.textOnly .lateStores⟩],none⟩ (.pointer (some ⟨T,8,none⟩)) hQ (fun w hS => by unfold fr31; go_simp) hS ?_
 refine want_k 13 (ops31_5_13 ps) fun K hK => ?_
 have hDr : Turns (fun k => k = T) w (World.drew w) := Turns.drew _ w
 generalize World.drew w = wd at *
 have hc : wd.cell? ⟨T,8,none⟩ = some (.int .i64 p.c) := by rw [Lib.cell_of_heap hT]; rfl
 have hf : wd.frozen? ⟨T,8,none⟩ = false := Lib.frozen_of_heap hT _
 have hS2 : SpY B b n g o c0 v1 v2 W0 C y (wd.setCell ⟨T,8,none⟩ (.int .i64 C)) := hS.set h1 h2 _
 have hT2 : (wd.setCell ⟨T,8,none⟩ (.int .i64 C)).heap[T]? = some (.cells (stL { p with c := C }).toArray 184 (0,0)) := heap_setCell_same _ T 8 _ 184 _ hT
 have hB2 := hDr.trans (Turns.setCell (X := fun k => k = T) wd (p := ⟨T,8,none⟩) rfl (.int .i64 C))
 unfold fr31 ops31_5_13
 go_simp
 generalize wd.setCell ⟨T,8,none⟩ (.int .i64 C) = wa at *
 refine hK _ _ hS2 (cast_h (fr31 v0 (.int .i64 (b : Nat)) (.pointer (some ⟨B,0,none⟩)) v3 v4 v5 (.pointer (some ⟨T,0,none⟩)) v7 v8 v9 xa xb xc xd xe xf xg xh xi xj xk xl xm xn xo xp xq xr xt xu xv xw xx xy xz xA xB xC xD xE xF xG xH xI xJ xK xL xM xN xO xP xQ xR (.pointer (some ⟨B,0,none⟩)) (.slice (some ⟨g,o,none⟩) n c0) (.int .i64 (b : Nat)) (.pointer (some ⟨g,o + b * 8,none⟩)) (.pointer (some ⟨g,o + b * 8 + 6,none⟩)) (.int .i64 C) (.pointer (some ⟨B,0,none⟩)) (.slice (some ⟨g,o,none⟩) n c0) (.int .i64 (b : Nat)) (.pointer (some ⟨g,o + b * 8,none⟩)) (.pointer (some ⟨g,o + b * 8 + 7,none⟩)) (.bool y) (.pointer (some ⟨T,8,none⟩)) yf yg) (by kernel_rfl) ?_)
 clear hK K
 refine take_r 14 ⟨some 66,.fieldAddr 184 (.tmp 6) 5,0,ps,#[⟨0,.phase⟩,⟨1,.phase⟩,⟨2,.phase⟩,⟨3,.phase⟩,⟨4,.phase⟩,⟨5,.phase⟩,⟨6,.phase⟩,⟨7,.phase⟩,⟨8,.phase⟩,⟨9,.phase⟩,⟨10,.phase⟩,⟨11,.phase⟩,⟨12,.phase⟩,⟨13,.phase⟩],none⟩ (.pointer (some ⟨T,9,none⟩)) hQ (fun w hS => by unfold fr31; go_simp) hS2 ?_
 refine want_k 15 (ops31_5_15 ps) fun K hK => ?_
 have hc2 : wa.cell? ⟨T,9,none⟩ = some (.bool p.y) := by rw [Lib.cell_of_heap hT2]; rfl
 have hf2 : wa.frozen? ⟨T,9,none⟩ = false := Lib.frozen_of_heap hT2 _
 have hS3 : SpY B b n g o c0 v1 v2 W0 C y (wa.setCell ⟨T,9,none⟩ (.bool y)) := hS2.set h1 h2 _
 have hT3 : (wa.setCell ⟨T,9,none⟩ (.bool y)).heap[T]? = some (.cells (stL { p with c := C,y := y }).toArray 184 (0,0)) := heap_setCell_same _ T 9 _ 184 _ hT2
 have hB3 := hB2.trans (Turns.setCell (X := fun k => k = T) wa (p := ⟨T,9,none⟩) rfl (.bool y))
 unfold fr31 ops31_5_15
 go_simp
 generalize wa.setCell ⟨T,9,none⟩ (.bool y) = wb at *
 refine hK _ _ hS3 (cast_h (fr31 v0 (.int .i64 (b : Nat)) (.pointer (some ⟨B,0,none⟩)) v3 v4 v5 (.pointer (some ⟨T,0,none⟩)) v7 v8 v9 xa xb xc xd xe xf xg xh xi xj xk xl xm xn xo xp xq xr xt xu xv xw xx xy xz xA xB xC xD xE xF xG xH xI xJ xK xL xM xN xO xP xQ xR (.pointer (some ⟨B,0,none⟩)) (.slice (some ⟨g,o,none⟩) n c0) (.int .i64 (b : Nat)) (.pointer (some ⟨g,o + b * 8,none⟩)) (.pointer (some ⟨g,o + b * 8 + 6,none⟩)) (.int .i64 C) (.pointer (some ⟨B,0,none⟩)) (.slice (some ⟨g,o,none⟩) n c0) (.int .i64 (b : Nat)) (.pointer (some ⟨g,o + b * 8,none⟩)) (.pointer (some ⟨g,o + b * 8 + 7,none⟩)) (.bool y) (.pointer (some ⟨T,8,none⟩)) (.pointer (some ⟨T,9,none⟩)) yg) (by kernel_rfl) ?_)
 clear hK K
 exact wpAnyH_done (by kernel_rfl) (hq _ hB3 hT3) _
end Go.Proofs.YtfiekhephkpdjaaGreatDoor
