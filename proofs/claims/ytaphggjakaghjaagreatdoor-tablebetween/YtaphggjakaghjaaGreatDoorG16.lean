/-
  What is proved here: what line of first answers.
  What is proved here: what take and Break$1 of first do.
-/
import Derived.Test.YtaphggjakaghjaaGreatDoorG1
import Derived.Test.YtaphggjakaghjaaGreatDoorG5
import Derived.Test.YtaphggjakaghjaaGreatDoorG15
import Derived.Test.YtaphggjakaghjaaGreatDoorG9
import Derived.Deep.MidRow
namespace Go.Proofs.YtaphggjakaghjaaGreatDoor
open Go.RowKit Go.Shelf
set_option maxRecDepth 100000
set_option maxHeartbeats 1000000

def zpc : Pc := ⟨0,0,false,false,0⟩
structure LW (z : World) (s : Sl) (p : Pc) (W : World) : Prop where
 low : Below z.heap.size z W
 b5 : W.heap[z.heap.size]? = some (.cells (slL s).toArray 98 (0,0))
 b6 : W.heap[z.heap.size + 1]? = some (.cells (pcL zpc).toArray 122 (0,0))
 b7 : W.heap[z.heap.size + 1 + 1]? = some (.cells (pcL p).toArray 122 (0,0))
theorem LW.next {z : World} {s : Sl} {p : Pc} {W W' : World} (h : LW z s p W) (hb : Below W.heap.size W W') : LW z s p W' := by
 have lt : ∀ {k : Nat} {x : Obj},W.heap[k]? = some x → k < W.heap.size := fun h => (Array.getElem?_eq_some_iff.1 h).1
 have f : ∀ {k : Nat} {x : Obj},W.heap[k]? = some x → W'.heap[k]? = some x := fun {k x} e => (hb.block k (lt e)).trans e
 exact ⟨h.low.trans (hb.mono h.low.size),f h.b5,f h.b6,f h.b7⟩
theorem LW.drew {z : World} {s : Sl} {p : Pc} {W : World} (h : LW z s p W) : LW z s p W.drew := ⟨⟨h.low.1,h.low.2,h.low.3,h.low.4,h.low.5⟩,h.b5,h.b6,h.b7⟩
theorem LW.set {z : World} {s : Sl} {p : Pc} {W : World} (h : LW z s p W) (q : Pc) : LW z s q (W.setRow (z.heap.size + 1 + 1) (pcL q).toArray) := by
 have ht := Turns.setRow (X := fun k => k = z.heap.size + 1 + 1) W rfl (pcL q).toArray
 have lt : ∀ {k : Nat} {x : Obj},W.heap[k]? = some x → k < W.heap.size := fun h => (Array.getElem?_eq_some_iff.1 h).1
 refine ⟨h.low.trans (ht.below h.low.size (fun k hk => by omega)),(ht.block _ (lt h.b5) (by omega)).trans h.b5,(ht.block _ (lt h.b6) (by omega)).trans h.b6,setRow_heap _ _ _ _ _ _ h.b7⟩
structure LS (z : World) (s : Sl) (W : World) : Prop where
 low : Below z.heap.size z W
 b5 : W.heap[z.heap.size]? = some (.cells (slL s).toArray 98 (0,0))
 b7 : ∃ p,W.heap[z.heap.size + 1 + 1]? = some (.cells (pcL p).toArray 122 (0,0))
theorem LW.ls {z : World} {s : Sl} {p : Pc} {W : World} (h : LW z s p W) : LS z s W := ⟨h.low,h.b5,_,h.b7⟩
theorem LS.w {z : World} {s : Sl} {W : World} (h : LS z s W) : W.cell? ⟨z.heap.size,1,none⟩ = some (.int .i64 s.w) := by rw [Lib.cell_of_heap h.b5]; rfl
theorem LS.set {z : World} {s : Sl} {W : World} (h : LS z s W) (q : Pc) : LS z s (W.setRow (z.heap.size + 1 + 1) (pcL q).toArray) := by
 have ht := Turns.setRow (X := fun k => k = z.heap.size + 1 + 1) W rfl (pcL q).toArray
 have lt : ∀ {k : Nat} {x : Obj},W.heap[k]? = some x → k < W.heap.size := fun h => (Array.getElem?_eq_some_iff.1 h).1
 obtain ⟨p,hp⟩ := h.b7
 exact ⟨h.low.trans (ht.below h.low.size (fun k hk => by omega)),(ht.block _ (lt h.b5) (by omega)).trans h.b5,q,setRow_heap _ _ _ _ _ _ hp⟩
theorem LW.x {z : World} {s : Sl} {p : Pc} {W : World} (h : LW z s p W) : W.cell? ⟨z.heap.size,0,none⟩ = some (.int .i64 s.x) := by rw [Lib.cell_of_heap h.b5]; rfl
theorem LW.w {z : World} {s : Sl} {p : Pc} {W : World} (h : LW z s p W) : W.cell? ⟨z.heap.size,1,none⟩ = some (.int .i64 s.w) := by rw [Lib.cell_of_heap h.b5]; rfl
theorem LW.pb {z : World} {s : Sl} {p : Pc} {W : World} (h : LW z s p W) : W.cell? ⟨z.heap.size + 1 + 1,1,none⟩ = some (.int .i64 p.b) := by rw [Lib.cell_of_heap h.b7]; rfl
theorem LW.wd {z : World} {s : Sl} {p : Pc} {W : World} (h : LW z s p W) : W.cell? ⟨z.heap.size + 1 + 1,2,none⟩ = some (.bool p.wd) := by rw [Lib.cell_of_heap h.b7]; rfl
theorem info41 (p : Pc) : (Tryz.prog.info? 122).map (·.size) = some (pcL p).toArray.size := by show _ = some 5; kernel_rfl
def fr40 (v0 v1 v2 v3 v4 v5 v6 v7 v8 v9 xa xb xc xd xe xf xg xh xi xj xk xl xm xn xo xp xq xr xt xu xv xw xx xy xz xA xB xC xD xE xF xG xH xI xJ xK xL xM xN xO xP xQ xR xS xT xU xV xW xX xY xZ ya yb yc yd ye : Value) : Act := { tmps := #[v0,v1,v2,v3,v4,v5,v6,v7,v8,v9,xa,xb,xc,xd,xe,xf,xg,xh,xi,xj,xk,xl,xm,xn,xo,xp,xq,xr,xt,xu,xv,xw,xx,xy,xz,xA,xB,xC,xD,xE,xF,xG,xH,xI,xJ,xK,xL,xM,xN,xO,xP,xQ,xR,xS,xT,xU,xV,xW,xX,xY,xZ,ya,yb,yc,yd,ye],defers := [] }
def ops40_8_0 (ps : String) : Oper := ⟨some 46,.move (.tmp 1),3,ps,#[],none⟩
def ops40_8_1 (ps : String) : Oper := ⟨some 47,.move (.tmp 8),3,ps,#[],none⟩
def ops40_8_2 (ps : String) : Oper := ⟨some 48,.move (.tmp 9),3,ps,#[],none⟩
def ops40_8_3 (ps : String) : Oper := ⟨some 49,.fieldAddr 98 (.tmp 5) 1,0,ps,#[],none⟩
def ops40_8_4 (ps : String) : Oper := ⟨some 50,.load 3 (.tmp 49),3,ps,#[⟨3,.data⟩],none⟩
def ops40_8_5 (ps : String) : Oper := ⟨some 51,.binOp .gtr 3 (.tmp 48) (.tmp 50) 3,4,ps,#[⟨2,.data⟩,⟨4,.data⟩],none⟩
def ops40_8_6 (ps : String) : Oper := ⟨some 52,.move (.tmp 8),3,ps,#[],none⟩
def ops40_8_7 (ps : String) : Oper := ⟨some 53,.move (.tmp 0),111,ps,#[],none⟩
def ops40_8_8 (ps : String) : Oper := ⟨some 54,.call ⟨.builtin .len,#[.tmp 53],#[111]⟩,3,ps,#[⟨7,.data⟩],none⟩
def ops40_8_9 (ps : String) : Oper := ⟨some 55,.binOp .lss 3 (.tmp 52) (.tmp 54) 3,4,ps,#[⟨6,.data⟩,⟨8,.data⟩],none⟩
def ops40_8_10 (ps : String) : Oper := ⟨some 56,.move (.tmp 55),4,ps,#[⟨9,.data⟩],none⟩
def ops40_8_11 (ps : String) : Oper := ⟨some 57,.move (.tmp 0),111,ps,#[⟨10,.guard⟩],some (10,true)⟩
def ops40_8_12 (ps : String) : Oper := ⟨some 58,.move (.tmp 8),3,ps,#[⟨10,.guard⟩],some (10,true)⟩
def ops40_8_13 (ps : String) : Oper := ⟨some 59,.indexAddr 111 (.tmp 57) (.tmp 58),0,ps,#[⟨11,.data⟩,⟨12,.data⟩,⟨10,.guard⟩],some (10,true)⟩
def ops40_8_14 (ps : String) : Oper := ⟨some 60,.fieldAddr 125 (.tmp 59) 7,0,ps,#[⟨13,.data⟩,⟨10,.guard⟩],some (10,true)⟩
def ops40_8_15 (ps : String) : Oper := ⟨some 61,.load 4 (.tmp 60),4,ps,#[⟨14,.data⟩,⟨10,.guard⟩],some (10,true)⟩
def ops40_8_16 (ps : String) : Oper := ⟨some 62,.pick (.tmp 56) (.tmp 61) (.const (.bool false)),4,ps,#[⟨10,.data⟩,⟨15,.data⟩],none⟩
def ops40_8_17 (ps : String) : Oper := ⟨some 63,.move (.tmp 9),3,ps,#[],none⟩
def ops40_8_18 (ps : String) : Oper := ⟨some 64,.build 122 #[(0,.tmp 46),(1,.tmp 47),(2,.tmp 51),(3,.tmp 62),(4,.tmp 63)],122,ps,#[⟨0,.data⟩,⟨1,.data⟩,⟨5,.data⟩,⟨16,.data⟩,⟨17,.data⟩],none⟩
def ops40_8_19 (ps : String) : Oper := ⟨none,.store 122 (.tmp 7) (.tmp 64),0,ps,#[⟨18,.data⟩,⟨10,.chain⟩,⟨0,.phase⟩,⟨1,.phase⟩,⟨2,.phase⟩,⟨3,.phase⟩,⟨4,.phase⟩,⟨5,.phase⟩,⟨6,.phase⟩,⟨7,.phase⟩,⟨8,.phase⟩,⟨9,.phase⟩,⟨10,.phase⟩,⟨11,.phase⟩,⟨12,.phase⟩,⟨13,.phase⟩,⟨14,.phase⟩,⟨15,.phase⟩,⟨16,.phase⟩,⟨17,.phase⟩,⟨18,.phase⟩],none⟩
def ops40_8 (ps : String) : Array Oper := #[ops40_8_0 ps,ops40_8_1 ps,ops40_8_2 ps,ops40_8_3 ps,ops40_8_4 ps,ops40_8_5 ps,ops40_8_6 ps,ops40_8_7 ps,ops40_8_8 ps,ops40_8_9 ps,ops40_8_10 ps,ops40_8_11 ps,ops40_8_12 ps,ops40_8_13 ps,ops40_8_14 ps,ops40_8_15 ps,ops40_8_16 ps,ops40_8_17 ps,ops40_8_18 ps,ops40_8_19 ps]

theorem ln_in (Q : Exit → Act → World → Prop) (hQ : ∀ c x (n : Nat) v w,Q (.panic c) (x.put (some n) v) w → Q (.panic c) x w) (id : Nat) (ps : String) {v2 v3 v4 v6 xa xb xc xd xe xf xg xh xi xj xk xl xm xn xo xp xq xr xt xu xv xw xx xy xz xA xB xC xD xE xF xG xH xI xJ xK xL xM xN xO xP xQ xR xS xT xU xV xW xX xY xZ ya yb yc yd ye : Value} (z : World) (s : Sl) (A b n cap : Nat) (wv : Int) (q : Bool) (g o : Nat) (y : Bool) (w : World) (hS : LS z s (World.drew w))
  (hq5 : decide (s.w < wv) = q) (hbn : (b : Int) < n) (hcell : ∀ W,Below z.heap.size z W → W.cell? ⟨g,o + b * 8 + 7,none⟩ = some (.bool y))
  (hq : Q .normal (fr40 (.slice (some ⟨g,o,none⟩) n cap) (.int .i64 (A : Nat)) v2 v3 v4 (.pointer (some ⟨z.heap.size,0,none⟩)) v6 (.pointer (some ⟨z.heap.size + 1 + 1,0,none⟩)) (.int .i64 (b : Nat)) (.int .i64 wv) xa xb xc xd xe xf xg xh xi xj xk xl xm xn xo xp xq xr xt xu xv xw xx xy xz xA xB xC xD xE xF xG xH xI xJ xK (.int .i64 (A : Nat)) (.int .i64 (b : Nat)) (.int .i64 wv) (.pointer (some ⟨z.heap.size,1,none⟩)) (.int .i64 s.w) (.bool q) (.int .i64 (b : Nat)) (.slice (some ⟨g,o,none⟩) n cap) (.int .i64 (n : Nat)) (.bool true) (.bool true) (.slice (some ⟨g,o,none⟩) n cap) (.int .i64 (b : Nat)) (.pointer (some ⟨g,o + b * 8,none⟩)) (.pointer (some ⟨g,o + b * 8 + 7,none⟩)) (.bool y) (.bool y) (.int .i64 wv) (.agg (pcL ⟨A,b,q,y,wv⟩).toArray) ye) ((World.drew w).setRow (z.heap.size + 1 + 1) (pcL ⟨A,b,q,y,wv⟩).toArray)) :
  (Code.region id (ops40_8 ps) true).wp Tryz.prog Q (fr40 (.slice (some ⟨g,o,none⟩) n cap) (.int .i64 (A : Nat)) v2 v3 v4 (.pointer (some ⟨z.heap.size,0,none⟩)) v6 (.pointer (some ⟨z.heap.size + 1 + 1,0,none⟩)) (.int .i64 (b : Nat)) (.int .i64 wv) xa xb xc xd xe xf xg xh xi xj xk xl xm xn xo xp xq xr xt xu xv xw xx xy xz xA xB xC xD xE xF xG xH xI xJ xK xL xM xN xO xP xQ xR xS xT xU xV xW xX xY xZ ya yb yc yd ye) w := by
 refine wp_region_held (S := LS z s) (by kernel_rfl) ?_
 change wpAnyH _ _ _ _ _ 20 _ _ (World.drew w)
 refine pures_h (fuel := 17) (by kernel_rfl) hQ hS [0,1,2] (fr40 (.slice (some ⟨g,o,none⟩) n cap) (.int .i64 (A : Nat)) v2 v3 v4 (.pointer (some ⟨z.heap.size,0,none⟩)) v6 (.pointer (some ⟨z.heap.size + 1 + 1,0,none⟩)) (.int .i64 (b : Nat)) (.int .i64 wv) xa xb xc xd xe xf xg xh xi xj xk xl xm xn xo xp xq xr xt xu xv xw xx xy xz xA xB xC xD xE xF xG xH xI xJ xK (.int .i64 (A : Nat)) (.int .i64 (b : Nat)) (.int .i64 wv) xO xP xQ xR xS xT xU xV xW xX xY xZ ya yb yc yd ye) (by kernel_rfl) (by kernel_rfl) ?_
 refine take_r 3 ⟨some 49,.fieldAddr 98 (.tmp 5) 1,0,ps,#[],none⟩ (.pointer (some ⟨z.heap.size,1,none⟩)) hQ (fun w hS => by unfold fr40; go_simp) hS ?_
 refine take_r 4 ⟨some 50,.load 3 (.tmp 49),3,ps,#[⟨3,.data⟩],none⟩ (.int .i64 s.w) hQ (fun w hS => by have e := hS.w; unfold fr40; go_simp) hS ?_
 refine take_r 5 ⟨some 51,.binOp .gtr 3 (.tmp 48) (.tmp 50) 3,4,ps,#[⟨2,.data⟩,⟨4,.data⟩],none⟩ (.bool q) hQ (fun w hS => by have hh := hq5; unfold fr40; go_simp) hS ?_
 refine pures_h (fuel := 12) (by kernel_rfl) hQ hS [6,7] (fr40 (.slice (some ⟨g,o,none⟩) n cap) (.int .i64 (A : Nat)) v2 v3 v4 (.pointer (some ⟨z.heap.size,0,none⟩)) v6 (.pointer (some ⟨z.heap.size + 1 + 1,0,none⟩)) (.int .i64 (b : Nat)) (.int .i64 wv) xa xb xc xd xe xf xg xh xi xj xk xl xm xn xo xp xq xr xt xu xv xw xx xy xz xA xB xC xD xE xF xG xH xI xJ xK (.int .i64 (A : Nat)) (.int .i64 (b : Nat)) (.int .i64 wv) (.pointer (some ⟨z.heap.size,1,none⟩)) (.int .i64 s.w) (.bool q) (.int .i64 (b : Nat)) (.slice (some ⟨g,o,none⟩) n cap) xT xU xV xW xX xY xZ ya yb yc yd ye) (by kernel_rfl) (by kernel_rfl) ?_
 refine take_r 8 ⟨some 54,.call ⟨.builtin .len,#[.tmp 53],#[111]⟩,3,ps,#[⟨7,.data⟩],none⟩ (.int .i64 (n : Nat)) hQ (fun w hS => by unfold fr40; go_simp) hS ?_
 refine take_r 9 ⟨some 55,.binOp .lss 3 (.tmp 52) (.tmp 54) 3,4,ps,#[⟨6,.data⟩,⟨8,.data⟩],none⟩ (.bool true) hQ (fun w hS => by have hh := hbn; unfold fr40; go_simp) hS ?_
 refine pures_h (fuel := 7) (by kernel_rfl) hQ hS [10,11,12] (fr40 (.slice (some ⟨g,o,none⟩) n cap) (.int .i64 (A : Nat)) v2 v3 v4 (.pointer (some ⟨z.heap.size,0,none⟩)) v6 (.pointer (some ⟨z.heap.size + 1 + 1,0,none⟩)) (.int .i64 (b : Nat)) (.int .i64 wv) xa xb xc xd xe xf xg xh xi xj xk xl xm xn xo xp xq xr xt xu xv xw xx xy xz xA xB xC xD xE xF xG xH xI xJ xK (.int .i64 (A : Nat)) (.int .i64 (b : Nat)) (.int .i64 wv) (.pointer (some ⟨z.heap.size,1,none⟩)) (.int .i64 s.w) (.bool q) (.int .i64 (b : Nat)) (.slice (some ⟨g,o,none⟩) n cap) (.int .i64 (n : Nat)) (.bool true) (.bool true) (.slice (some ⟨g,o,none⟩) n cap) (.int .i64 (b : Nat)) xY xZ ya yb yc yd ye) (by kernel_rfl) (by kernel_rfl) ?_
 refine take_r 13 ⟨some 59,.indexAddr 111 (.tmp 57) (.tmp 58),0,ps,#[⟨11,.data⟩,⟨12,.data⟩,⟨10,.guard⟩],some (10,true)⟩ (.pointer (some ⟨g,o + b * 8,none⟩)) hQ (fun w hS => by have hh := hbn; unfold fr40; go_simp) hS ?_
 refine take_r 14 ⟨some 60,.fieldAddr 125 (.tmp 59) 7,0,ps,#[⟨13,.data⟩,⟨10,.guard⟩],some (10,true)⟩ (.pointer (some ⟨g,o + b * 8 + 7,none⟩)) hQ (fun w hS => by unfold fr40; go_simp) hS ?_
 refine take_r 15 ⟨some 61,.load 4 (.tmp 60),4,ps,#[⟨14,.data⟩,⟨10,.guard⟩],some (10,true)⟩ (.bool y) hQ (fun w hS => by have e := hcell w hS.low; unfold fr40; go_simp) hS ?_
 refine pures_h (fuel := 2) (by kernel_rfl) hQ hS [16,17] (fr40 (.slice (some ⟨g,o,none⟩) n cap) (.int .i64 (A : Nat)) v2 v3 v4 (.pointer (some ⟨z.heap.size,0,none⟩)) v6 (.pointer (some ⟨z.heap.size + 1 + 1,0,none⟩)) (.int .i64 (b : Nat)) (.int .i64 wv) xa xb xc xd xe xf xg xh xi xj xk xl xm xn xo xp xq xr xt xu xv xw xx xy xz xA xB xC xD xE xF xG xH xI xJ xK (.int .i64 (A : Nat)) (.int .i64 (b : Nat)) (.int .i64 wv) (.pointer (some ⟨z.heap.size,1,none⟩)) (.int .i64 s.w) (.bool q) (.int .i64 (b : Nat)) (.slice (some ⟨g,o,none⟩) n cap) (.int .i64 (n : Nat)) (.bool true) (.bool true) (.slice (some ⟨g,o,none⟩) n cap) (.int .i64 (b : Nat)) (.pointer (some ⟨g,o + b * 8,none⟩)) (.pointer (some ⟨g,o + b * 8 + 7,none⟩)) (.bool y) (.bool y) (.int .i64 wv) yd ye) (by kernel_rfl) (by kernel_rfl) ?_
 refine take_r 18 ⟨some 64,.build 122 #[(0,.tmp 46),(1,.tmp 47),(2,.tmp 51),(3,.tmp 62),(4,.tmp 63)],122,ps,#[⟨0,.data⟩,⟨1,.data⟩,⟨5,.data⟩,⟨16,.data⟩,⟨17,.data⟩],none⟩ (.agg (pcL ⟨A,b,q,y,wv⟩).toArray) hQ (fun w hS => by unfold fr40; go_simp; try rfl) hS ?_
 refine want_k 19 (ops40_8_19 ps) fun K hK => ?_
 obtain ⟨p,hp⟩ := hS.b7
 refine wp_store_row 122 _ _ (by unfold ops40_8_19; rfl) (z.heap.size + 1 + 1) (pcL ⟨A,b,q,y,wv⟩).toArray rfl rfl 122 _ hp (info41 _) rfl (pcL_all _) ?_
 have hS2 : LS z s ((World.drew w).setRow (z.heap.size + 1 + 1) (pcL ⟨A,b,q,y,wv⟩).toArray) := hS.set _
 refine hK _ _ hS2 (cast_h (fr40 (.slice (some ⟨g,o,none⟩) n cap) (.int .i64 (A : Nat)) v2 v3 v4 (.pointer (some ⟨z.heap.size,0,none⟩)) v6 (.pointer (some ⟨z.heap.size + 1 + 1,0,none⟩)) (.int .i64 (b : Nat)) (.int .i64 wv) xa xb xc xd xe xf xg xh xi xj xk xl xm xn xo xp xq xr xt xu xv xw xx xy xz xA xB xC xD xE xF xG xH xI xJ xK (.int .i64 (A : Nat)) (.int .i64 (b : Nat)) (.int .i64 wv) (.pointer (some ⟨z.heap.size,1,none⟩)) (.int .i64 s.w) (.bool q) (.int .i64 (b : Nat)) (.slice (some ⟨g,o,none⟩) n cap) (.int .i64 (n : Nat)) (.bool true) (.bool true) (.slice (some ⟨g,o,none⟩) n cap) (.int .i64 (b : Nat)) (.pointer (some ⟨g,o + b * 8,none⟩)) (.pointer (some ⟨g,o + b * 8 + 7,none⟩)) (.bool y) (.bool y) (.int .i64 wv) (.agg (pcL ⟨A,b,q,y,wv⟩).toArray) ye) (by kernel_rfl) ?_)
 clear hK K
 exact wpAnyH_done (by kernel_rfl) hq _

theorem ln_out (Q : Exit → Act → World → Prop) (hQ : ∀ c x (n : Nat) v w,Q (.panic c) (x.put (some n) v) w → Q (.panic c) x w) (id : Nat) (ps : String) {v2 v3 v4 v6 xa xb xc xd xe xf xg xh xi xj xk xl xm xn xo xp xq xr xt xu xv xw xx xy xz xA xB xC xD xE xF xG xH xI xJ xK xL xM xN xO xP xQ xR xS xT xU xV xW xX xY xZ ya yb yc yd ye : Value} (z : World) (s : Sl) (A b n cap : Nat) (wv : Int) (q : Bool) (av : Option Addr) (w : World) (hS : LS z s (World.drew w))
  (hq5 : decide (s.w < wv) = q) (hbn : ¬ (b : Int) < n)
  (hq : Q .normal (fr40 (.slice av n cap) (.int .i64 (A : Nat)) v2 v3 v4 (.pointer (some ⟨z.heap.size,0,none⟩)) v6 (.pointer (some ⟨z.heap.size + 1 + 1,0,none⟩)) (.int .i64 (b : Nat)) (.int .i64 wv) xa xb xc xd xe xf xg xh xi xj xk xl xm xn xo xp xq xr xt xu xv xw xx xy xz xA xB xC xD xE xF xG xH xI xJ xK (.int .i64 (A : Nat)) (.int .i64 (b : Nat)) (.int .i64 wv) (.pointer (some ⟨z.heap.size,1,none⟩)) (.int .i64 s.w) (.bool q) (.int .i64 (b : Nat)) (.slice av n cap) (.int .i64 (n : Nat)) (.bool false) (.bool false) undef undef undef undef undef (.bool false) (.int .i64 wv) (.agg (pcL ⟨A,b,q,false,wv⟩).toArray) ye) ((World.drew w).setRow (z.heap.size + 1 + 1) (pcL ⟨A,b,q,false,wv⟩).toArray)) :
  (Code.region id (ops40_8 ps) true).wp Tryz.prog Q (fr40 (.slice av n cap) (.int .i64 (A : Nat)) v2 v3 v4 (.pointer (some ⟨z.heap.size,0,none⟩)) v6 (.pointer (some ⟨z.heap.size + 1 + 1,0,none⟩)) (.int .i64 (b : Nat)) (.int .i64 wv) xa xb xc xd xe xf xg xh xi xj xk xl xm xn xo xp xq xr xt xu xv xw xx xy xz xA xB xC xD xE xF xG xH xI xJ xK xL xM xN xO xP xQ xR xS xT xU xV xW xX xY xZ ya yb yc yd ye) w := by
 refine wp_region_held (S := LS z s) (by kernel_rfl) ?_
 change wpAnyH _ _ _ _ _ 20 _ _ (World.drew w)
 refine pures_h (fuel := 17) (by kernel_rfl) hQ hS [0,1,2] (fr40 (.slice av n cap) (.int .i64 (A : Nat)) v2 v3 v4 (.pointer (some ⟨z.heap.size,0,none⟩)) v6 (.pointer (some ⟨z.heap.size + 1 + 1,0,none⟩)) (.int .i64 (b : Nat)) (.int .i64 wv) xa xb xc xd xe xf xg xh xi xj xk xl xm xn xo xp xq xr xt xu xv xw xx xy xz xA xB xC xD xE xF xG xH xI xJ xK (.int .i64 (A : Nat)) (.int .i64 (b : Nat)) (.int .i64 wv) xO xP xQ xR xS xT xU xV xW xX xY xZ ya yb yc yd ye) (by kernel_rfl) (by kernel_rfl) ?_
 refine take_r 3 ⟨some 49,.fieldAddr 98 (.tmp 5) 1,0,ps,#[],none⟩ (.pointer (some ⟨z.heap.size,1,none⟩)) hQ (fun w hS => by unfold fr40; go_simp) hS ?_
 refine take_r 4 ⟨some 50,.load 3 (.tmp 49),3,ps,#[⟨3,.data⟩],none⟩ (.int .i64 s.w) hQ (fun w hS => by have e := hS.w; unfold fr40; go_simp) hS ?_
 refine take_r 5 ⟨some 51,.binOp .gtr 3 (.tmp 48) (.tmp 50) 3,4,ps,#[⟨2,.data⟩,⟨4,.data⟩],none⟩ (.bool q) hQ (fun w hS => by have hh := hq5; unfold fr40; go_simp) hS ?_
 refine pures_h (fuel := 12) (by kernel_rfl) hQ hS [6,7] (fr40 (.slice av n cap) (.int .i64 (A : Nat)) v2 v3 v4 (.pointer (some ⟨z.heap.size,0,none⟩)) v6 (.pointer (some ⟨z.heap.size + 1 + 1,0,none⟩)) (.int .i64 (b : Nat)) (.int .i64 wv) xa xb xc xd xe xf xg xh xi xj xk xl xm xn xo xp xq xr xt xu xv xw xx xy xz xA xB xC xD xE xF xG xH xI xJ xK (.int .i64 (A : Nat)) (.int .i64 (b : Nat)) (.int .i64 wv) (.pointer (some ⟨z.heap.size,1,none⟩)) (.int .i64 s.w) (.bool q) (.int .i64 (b : Nat)) (.slice av n cap) xT xU xV xW xX xY xZ ya yb yc yd ye) (by kernel_rfl) (by kernel_rfl) ?_
 refine take_r 8 ⟨some 54,.call ⟨.builtin .len,#[.tmp 53],#[111]⟩,3,ps,#[⟨7,.data⟩],none⟩ (.int .i64 (n : Nat)) hQ (fun w hS => by unfold fr40; go_simp) hS ?_
 refine take_r 9 ⟨some 55,.binOp .lss 3 (.tmp 52) (.tmp 54) 3,4,ps,#[⟨6,.data⟩,⟨8,.data⟩],none⟩ (.bool false) hQ (fun w hS => by have hh := hbn; unfold fr40; go_simp) hS ?_
 refine pures_h (fuel := 2) (by kernel_rfl) hQ hS [10,11,12,13,14,15,16,17] (fr40 (.slice av n cap) (.int .i64 (A : Nat)) v2 v3 v4 (.pointer (some ⟨z.heap.size,0,none⟩)) v6 (.pointer (some ⟨z.heap.size + 1 + 1,0,none⟩)) (.int .i64 (b : Nat)) (.int .i64 wv) xa xb xc xd xe xf xg xh xi xj xk xl xm xn xo xp xq xr xt xu xv xw xx xy xz xA xB xC xD xE xF xG xH xI xJ xK (.int .i64 (A : Nat)) (.int .i64 (b : Nat)) (.int .i64 wv) (.pointer (some ⟨z.heap.size,1,none⟩)) (.int .i64 s.w) (.bool q) (.int .i64 (b : Nat)) (.slice av n cap) (.int .i64 (n : Nat)) (.bool false) (.bool false) undef undef undef undef undef (.bool false) (.int .i64 wv) yd ye) (by kernel_rfl) (by kernel_rfl) ?_
 refine take_r 18 ⟨some 64,.build 122 #[(0,.tmp 46),(1,.tmp 47),(2,.tmp 51),(3,.tmp 62),(4,.tmp 63)],122,ps,#[⟨0,.data⟩,⟨1,.data⟩,⟨5,.data⟩,⟨16,.data⟩,⟨17,.data⟩],none⟩ (.agg (pcL ⟨A,b,q,false,wv⟩).toArray) hQ (fun w hS => by unfold fr40; go_simp; try rfl) hS ?_
 refine want_k 19 (ops40_8_19 ps) fun K hK => ?_
 obtain ⟨p,hp⟩ := hS.b7
 refine wp_store_row 122 _ _ (by unfold ops40_8_19; rfl) (z.heap.size + 1 + 1) (pcL ⟨A,b,q,false,wv⟩).toArray rfl rfl 122 _ hp (info41 _) rfl (pcL_all _) ?_
 have hS2 : LS z s ((World.drew w).setRow (z.heap.size + 1 + 1) (pcL ⟨A,b,q,false,wv⟩).toArray) := hS.set _
 refine hK _ _ hS2 (cast_h (fr40 (.slice av n cap) (.int .i64 (A : Nat)) v2 v3 v4 (.pointer (some ⟨z.heap.size,0,none⟩)) v6 (.pointer (some ⟨z.heap.size + 1 + 1,0,none⟩)) (.int .i64 (b : Nat)) (.int .i64 wv) xa xb xc xd xe xf xg xh xi xj xk xl xm xn xo xp xq xr xt xu xv xw xx xy xz xA xB xC xD xE xF xG xH xI xJ xK (.int .i64 (A : Nat)) (.int .i64 (b : Nat)) (.int .i64 wv) (.pointer (some ⟨z.heap.size,1,none⟩)) (.int .i64 s.w) (.bool q) (.int .i64 (b : Nat)) (.slice av n cap) (.int .i64 (n : Nat)) (.bool false) (.bool false) undef undef undef undef undef (.bool false) (.int .i64 wv) (.agg (pcL ⟨A,b,q,false,wv⟩).toArray) ye) (by kernel_rfl) ?_)
 clear hK K
 exact wpAnyH_done (by kernel_rfl) hq _
end Go.Proofs.YtaphggjakaghjaaGreatDoor

namespace Go.Proofs.YtaphggjakaghjaaGreatDoor
open Go.RowKit Go.Shelf
set_option maxRecDepth 100000
set_option maxHeartbeats 1000000

structure DX (D : Nat) (p : Pc) (W : World) : Prop where
 row : W.heap[D]? = some (.cells (pcL p).toArray 122 (0,0))
theorem DX.lt {D : Nat} {p : Pc} {W : World} (h : DX D p W) : D < W.heap.size := (Array.getElem?_eq_some_iff.1 h.row).1
theorem DX.alloc {D : Nat} {p : Pc} {W : World} (h : DX D p W) (x : Obj) : DX D p (W.alloc x) := ⟨(Below.heap_alloc _ _ _ h.lt).trans h.row⟩
theorem load_pc {a : Act} {w : World} {D : Nat} {p : Pc} {o : Oper} {x : Operand} (h : DX D p w) (ho : o.op = .load 122 x) (hx : a.eval x = .pointer (some ⟨D,0,none⟩)) : (execOp a.eval o).run Tryz.prog w = .ok (.value (.agg (pcL p).toArray)) w := by
 have hl := run_loadVar_row (P := Tryz.prog) w D 122 122 (pcL p).toArray (0,0) _ h.row Tryz.underlying122 rfl (info41 p)
 simp [execOp,ho,hx,Instr.loadAt,Instr.sureAddr,hl]
theorem run_pbuild1 (W : World) (p : Pc) : (Instr.buildSlice 116 1 #[(0,.agg (pcL p).toArray)]).run Tryz.prog W = .ok (.slice (some ⟨W.heap.size,0,none⟩) 1 1) (W.alloc (.cells (pcL p).toArray 122)) := by
 obtain ⟨a,b,wd,hy,nt⟩ := p
 kernel_rfl
theorem wp_pbuild1 {oi : Oper} {a : Act} {w : World} {K : Act → World → Prop} {Q : Exit → Act → World → Prop} (y : Operand) (ho : oi.op = .buildSlice 116 1 #[(0,y)]) (p : Pc) (hy : a.eval y = .agg (pcL p).toArray)
  (h : K (a.put oi.dst (.slice (some ⟨w.heap.size,0,none⟩) 1 1)) (w.alloc (.cells (pcL p).toArray 122))) : oi.wp Tryz.prog a w K Q := by
 have hr := run_pbuild1 w p
 unfold Oper.wp execOp
 simp only [ho,List.map_toArray,List.map_cons,List.map_nil,hy,Sem.run_bind,Sem.run_pure,Result.andThen_ok,hr]
 exact h
theorem info41z : ∃ i z,Tryz.prog.info? 122 = some i ∧ i.zero = some z ∧ i.size = 5 ∧ i.bytes = 32 ∧ z.cells.size = 5 := by
 have h : (Tryz.prog.info? 122).map (fun i => (i.zero.map (fun z => z.cells.size),i.size,i.bytes)) = some (some 5,5,32) := by kernel_rfl
 cases hi : Tryz.prog.info? 122 with
 | none => rw [hi] at h; cases h
 | some i =>
  rw [hi] at h
  simp only [Option.map_some,Option.some.injEq,Prod.mk.injEq] at h
  obtain ⟨h1,h2,h3⟩ := h
  cases hz : i.zero with
  | none => rw [hz] at h1; cases h1
  | some z => rw [hz] at h1; exact ⟨i,z,rfl,hz,h2,h3,by simpa using h1⟩
theorem pc_cells (W : World) (p : Pc) : ∀ j u,(pcL p)[j]? = some u → (W.alloc (.cells (pcL p).toArray 122)).cell? ((⟨W.heap.size,0,none⟩ : Addr).add j) = some u := fun j u hu => by
 rw [addr_add0,Lib.cell_of_heap (World.alloc_heap_new W _)]
 simpa using hu
theorem wp_papp {oi : Oper} {a : Act} {w : World} {K : Act → World → Prop} {Q : Exit → Act → World → Prop} (x y : Operand) (ho : oi.op = Op.call { callee := Callee.builtin Builtin.append,args := #[x,y],argTypes := #[116,116] }) (base : Nat) (v : Value) (qs : List Pc) (p : Pc) (hx : a.eval x = v)
  (hown : w.ownsRow base 122 5 v qs.length (qs.flatMap pcL)) (hb : base ≤ w.heap.size) (hn : qs.length ≤ 9000) (hy : a.eval y = .slice (some ⟨w.heap.size,0,none⟩) 1 1)
  (h : ∀ v' w',w'.ownsRow base 122 5 v' (qs ++ [p]).length ((qs ++ [p]).flatMap pcL) → (w.alloc (.cells (pcL p).toArray 122)).grownBy w' v.ownBlock → K (a.put oi.dst v') w') : oi.wp Tryz.prog a (w.alloc (.cells (pcL p).toArray 122)) K Q := by
 obtain ⟨i,z,hi,hz0,hz1,hz2,hz3⟩ := info41z
 obtain ⟨v',w',hrun,r1,r2,_⟩ := run_append_where (P := Tryz.prog) (w.alloc (.cells (pcL p).toArray 122)) base 116 oi.type 122 i z 5 32 Tryz.underlying116 hi hz0 hz1 hz2 hz3 (by decide) v qs.length (qs.flatMap pcL) (hown.alloc _) ⟨w.heap.size,0,none⟩ 1 1 (pcL p) rfl (pc_cells w p) (pcL_one p) (by unfold maxLen; omega) (by omega) (by simp; omega)
 have e : [p].flatMap pcL = pcL p := by simp
 have hK := h v' w' (by rw [List.length_append,List.flatMap_append,e]; exact r1) r2
 unfold Oper.wp
 simp [execOp,ho,resolve,invoke,builtin,hx,hy,hrun,Result.andThen]
 exact hK
def fr25 (v0 v1 v2 v3 v4 v5 v6 v7 v8 v9 v10 v11 v12 v13 : Value) : Act := { tmps := #[v0,v1,v2,v3,v4,v5,v6,v7,v8,v9,v10,v11,v12,v13],defers := [] }
def ops25_1_0 (ps : String) : Oper := ⟨some 4,.move (.tmp 0),330,ps,#[],none⟩
def ops25_1_1 (ps : String) : Oper := ⟨some 5,.move (.tmp 0),330,ps,#[],none⟩
def ops25_1_2 (ps : String) : Oper := ⟨some 6,.nilCheck (.tmp 5),0,ps,#[⟨1,.data⟩],none⟩
def ops25_1_3 (ps : String) : Oper := ⟨some 7,.fieldAddr 288 (.tmp 6) 0,0,ps,#[⟨2,.data⟩],none⟩
def ops25_1_4 (ps : String) : Oper := ⟨some 8,.load 116 (.tmp 7),116,ps,#[⟨3,.data⟩],none⟩
def ops25_1_5 (ps : String) : Oper := ⟨some 9,.load 122 (.tmp 3),122,ps,#[],none⟩
def ops25_1_6 (ps : String) : Oper := ⟨some 10,.buildSlice 116 1 #[(0,.tmp 9)],116,ps,#[⟨5,.data⟩],none⟩
def ops25_1_7 (ps : String) : Oper := ⟨some 11,.call ⟨.builtin .append,#[.tmp 8,.tmp 10],#[116,116]⟩,116,ps,#[⟨4,.data⟩,⟨6,.data⟩],none⟩
def ops25_1_8 (ps : String) : Oper := ⟨some 12,.nilCheck (.tmp 4),0,ps,#[⟨0,.data⟩,⟨0,.phase⟩,⟨1,.phase⟩,⟨2,.phase⟩,⟨3,.phase⟩,⟨4,.phase⟩,⟨5,.phase⟩,⟨6,.phase⟩,⟨7,.phase⟩],none⟩
def ops25_1_9 (ps : String) : Oper := ⟨some 13,.fieldAddr 288 (.tmp 12) 0,0,ps,#[⟨8,.data⟩,⟨0,.phase⟩,⟨1,.phase⟩,⟨2,.phase⟩,⟨3,.phase⟩,⟨4,.phase⟩,⟨5,.phase⟩,⟨6,.phase⟩,⟨7,.phase⟩],none⟩
def ops25_1_10 (ps : String) : Oper := ⟨none,.store 116 (.tmp 13) (.tmp 11),0,ps,#[⟨9,.data⟩,⟨7,.data⟩,⟨7,.chain⟩,⟨0,.phase⟩,⟨1,.phase⟩,⟨2,.phase⟩,⟨3,.phase⟩,⟨4,.phase⟩,⟨5,.phase⟩,⟨6,.phase⟩,⟨7,.phase⟩],none⟩
def ops25_1 (ps : String) : Array Oper := #[ops25_1_0 ps,ops25_1_1 ps,ops25_1_2 ps,ops25_1_3 ps,ops25_1_4 ps,ops25_1_5 ps,ops25_1_6 ps,ops25_1_7 ps,ops25_1_8 ps,ops25_1_9 ps,ops25_1_10 ps]

theorem tk_r1 (Q : Exit → Act → World → Prop) (hQ : ∀ c x (n : Nat) v w,Q (.panic c) (x.put (some n) v) w → Q (.panic c) x w) (id : Nat) (ps : String) {v1 v2 v4 v5 v6 v7 v8 v9 v10 v11 v12 v13 : Value} (G D base : Nat) (va : Option Addr) (vn vc : Nat) (qs : List Pc) (p : Pc) (w : World) (hS : DX D p (World.drew w))
  (hG : (World.drew w).heap[G]? = some (.cells #[.slice va vn vc] 288 (0,0))) (hrow : (World.drew w).ownsRow base 122 5 (.slice va vn vc) qs.length (qs.flatMap pcL)) (hb : base ≤ (World.drew w).heap.size) (hn : qs.length ≤ 9000) (hlow : G < base) (hDv : Value.ownBlock (.slice va vn vc) ≠ some D)
  (hq : ∀ (va' : Option Addr) (vc' : Nat) (w2 : World),w2.ownsRow base 122 5 (.slice va' (qs.length + 1) vc') (qs ++ [p]).length ((qs ++ [p]).flatMap pcL) → ((World.drew w).alloc (.cells (pcL p).toArray 122)).grownBy w2 (Value.ownBlock (.slice va vn vc)) → w2.heap[G]? = some (.cells #[.slice va vn vc] 288 (0,0)) → ∀ u4 u5 u6 u7 u8 u9 u10 u11 u12 u13,Q .normal (fr25 (.pointer (some ⟨G,0,none⟩)) v1 v2 (.pointer (some ⟨D,0,none⟩)) u4 u5 u6 u7 u8 u9 u10 u11 u12 u13) (w2.setCell ⟨G,0,none⟩ (.slice va' (qs.length + 1) vc'))) :
  (Code.region id (ops25_1 ps) true).wp Tryz.prog Q (fr25 (.pointer (some ⟨G,0,none⟩)) v1 v2 (.pointer (some ⟨D,0,none⟩)) v4 v5 v6 v7 v8 v9 v10 v11 v12 v13) w := by
 refine wp_region_held (S := DX D p) (by kernel_rfl) ?_
 change wpAnyH _ _ _ _ _ 11 _ _ (World.drew w)
 generalize World.drew w = wd at *
 have hGl : G < wd.heap.size := (Array.getElem?_eq_some_iff.1 hG).1
 have hDG : D ≠ G := fun e => by
  have h1 := hS.row
  rw [e,hG] at h1
  injection h1 with h1
  injection h1 with h1 h2
  exact absurd h2 (by decide)
 have hGv : Value.ownBlock (.slice va vn vc) ≠ some G := fun e => by have := (hrow.lt G e).1; omega
 have tail : wpAnyH Tryz.prog .any (ops25_1 ps) Q (DX D p) 4 #[true,true,true,true,true,true,true,false,false,false,false] (fr25 (.pointer (some ⟨G,0,none⟩)) v1 v2 (.pointer (some ⟨D,0,none⟩)) (.pointer (some ⟨G,0,none⟩)) (.pointer (some ⟨G,0,none⟩)) (.pointer (some ⟨G,0,none⟩)) (.pointer (some ⟨G,0,none⟩)) (.slice va vn vc) (.agg (pcL p).toArray) (.slice (some ⟨wd.heap.size,0,none⟩) 1 1) v11 v12 v13) (wd.alloc (.cells (pcL p).toArray 122)) := by
  refine want_k 7 (ops25_1_7 ps) fun K hK => ?_
  refine wp_papp (Operand.tmp 8) (Operand.tmp 10) (by unfold ops25_1_7; rfl) base (.slice va vn vc) qs p rfl hrow hb hn rfl ?_
  intro v' w2 ho hg
  have hS2 : DX D p w2 := ⟨(hg.block D (by have := hS.lt; simp; omega) (fun e => hDv e.symm)).trans (hS.alloc _).row⟩
  have hG2 : w2.heap[G]? = some (.cells #[.slice va vn vc] 288 (0,0)) := (hg.block G (by simp; omega) (fun e => hGv e.symm)).trans ((Below.heap_alloc _ _ _ hGl).trans hG)
  obtain ⟨va',vc',rfl⟩ : ∃ a c,v' = .slice a (qs.length + 1) c := by
   have e2 : (qs ++ [p]).length = qs.length + 1 := by simp
   rw [e2] at ho
   rcases ho.2 with ⟨e,e0⟩ | ⟨g',cap',cur',e,_⟩
   ·omega
   ·exact ⟨_,_,e⟩
  have hfz : w2.frozen? ⟨G,0,none⟩ = false := Boxed.frozen (show Boxed w2 G 288 _ from hG2)
  have hG3 : w2.cell? ⟨G,0,none⟩ = some (.slice va vn vc) := by rw [Lib.cell_of_heap hG2]; rfl
  refine hK _ _ hS2 (cast_h (fr25 (.pointer (some ⟨G,0,none⟩)) v1 v2 (.pointer (some ⟨D,0,none⟩)) (.pointer (some ⟨G,0,none⟩)) (.pointer (some ⟨G,0,none⟩)) (.pointer (some ⟨G,0,none⟩)) (.pointer (some ⟨G,0,none⟩)) (.slice va vn vc) (.agg (pcL p).toArray) (.slice (some ⟨wd.heap.size,0,none⟩) 1 1) (.slice va' (qs.length + 1) vc') v12 v13) (by kernel_rfl) ?_)
  clear hK K
  refine take_r 8 ⟨some 12,.nilCheck (.tmp 4),0,ps,#[⟨0,.data⟩,⟨0,.phase⟩,⟨1,.phase⟩,⟨2,.phase⟩,⟨3,.phase⟩,⟨4,.phase⟩,⟨5,.phase⟩,⟨6,.phase⟩,⟨7,.phase⟩],none⟩ (.pointer (some ⟨G,0,none⟩)) hQ (fun w hS => by unfold fr25; go_simp) hS2 ?_
  refine take_r 9 ⟨some 13,.fieldAddr 288 (.tmp 12) 0,0,ps,#[⟨8,.data⟩,⟨0,.phase⟩,⟨1,.phase⟩,⟨2,.phase⟩,⟨3,.phase⟩,⟨4,.phase⟩,⟨5,.phase⟩,⟨6,.phase⟩,⟨7,.phase⟩],none⟩ (.pointer (some ⟨G,0,none⟩)) hQ (fun w hS => by unfold fr25; go_simp) hS2 ?_
  refine want_k 10 (ops25_1_10 ps) fun K hK => ?_
  unfold fr25 ops25_1_10
  go_simp
  have hS3 : DX D p (w2.setCell ⟨G,0,none⟩ (.slice va' (qs.length + 1) vc')) := ⟨(Below.heap_setCell _ _ _ D hDG).trans hS2.row⟩
  refine hK _ _ hS3 (cast_h (fr25 (.pointer (some ⟨G,0,none⟩)) v1 v2 (.pointer (some ⟨D,0,none⟩)) (.pointer (some ⟨G,0,none⟩)) (.pointer (some ⟨G,0,none⟩)) (.pointer (some ⟨G,0,none⟩)) (.pointer (some ⟨G,0,none⟩)) (.slice va vn vc) (.agg (pcL p).toArray) (.slice (some ⟨wd.heap.size,0,none⟩) 1 1) (.slice va' (qs.length + 1) vc') (.pointer (some ⟨G,0,none⟩)) (.pointer (some ⟨G,0,none⟩))) (by kernel_rfl) ?_)
  clear hK K
  exact wpAnyH_done (by kernel_rfl) (hq va' vc' w2 ho hg hG2 _ _ _ _ _ _ _ _ _ _) _
 refine take_r 0 ⟨some 4,.move (.tmp 0),330,ps,#[],none⟩ (.pointer (some ⟨G,0,none⟩)) hQ (fun w _ => by kernel_rfl) hS ?_
 refine take_r 1 ⟨some 5,.move (.tmp 0),330,ps,#[],none⟩ (.pointer (some ⟨G,0,none⟩)) hQ (fun w _ => by kernel_rfl) hS ?_
 refine take_r 2 ⟨some 6,.nilCheck (.tmp 5),0,ps,#[⟨1,.data⟩],none⟩ (.pointer (some ⟨G,0,none⟩)) hQ (fun w hS => by unfold fr25; go_simp) hS ?_
 refine take_r 3 ⟨some 7,.fieldAddr 288 (.tmp 6) 0,0,ps,#[⟨2,.data⟩],none⟩ (.pointer (some ⟨G,0,none⟩)) hQ (fun w hS => by unfold fr25; go_simp) hS ?_
 refine take_r 5 ⟨some 9,.load 122 (.tmp 3),122,ps,#[],none⟩ (.agg (pcL p).toArray) hQ (fun w hS => load_pc (x := (Operand.tmp 3)) hS (by kernel_rfl) (by kernel_rfl)) hS ?_
 refine two_h (i := 4) (j := 6) (oi := ops25_1_4 ps) (oj := ops25_1_6 ps) (fuel := 5) (by kernel_rfl) (by kernel_rfl) (by kernel_rfl) (by kernel_rfl) (by kernel_rfl) (fun K hK => ?_) (fun K hK => ?_)
 ·have hc : wd.cell? ⟨G,0,none⟩ = some (.slice va vn vc) := by rw [Lib.cell_of_heap hG]; rfl
  unfold fr25 ops25_1_4
  go_simp
  refine hK _ _ hS (cast_h (fr25 (.pointer (some ⟨G,0,none⟩)) v1 v2 (.pointer (some ⟨D,0,none⟩)) (.pointer (some ⟨G,0,none⟩)) (.pointer (some ⟨G,0,none⟩)) (.pointer (some ⟨G,0,none⟩)) (.pointer (some ⟨G,0,none⟩)) (.slice va vn vc) (.agg (pcL p).toArray) v10 v11 v12 v13) (by kernel_rfl) ?_)
  refine want_k 6 (ops25_1_6 ps) fun K hK => ?_
  refine wp_pbuild1 (Operand.tmp 9) (by unfold ops25_1_6; rfl) p rfl ?_
  exact hK _ _ (hS.alloc _) (cast_h (fr25 (.pointer (some ⟨G,0,none⟩)) v1 v2 (.pointer (some ⟨D,0,none⟩)) (.pointer (some ⟨G,0,none⟩)) (.pointer (some ⟨G,0,none⟩)) (.pointer (some ⟨G,0,none⟩)) (.pointer (some ⟨G,0,none⟩)) (.slice va vn vc) (.agg (pcL p).toArray) (.slice (some ⟨wd.heap.size,0,none⟩) 1 1) v11 v12 v13) (by kernel_rfl) tail)
 ·refine wp_pbuild1 (Operand.tmp 9) (by unfold ops25_1_6; rfl) p rfl ?_
  refine hK _ _ (hS.alloc _) (cast_h (fr25 (.pointer (some ⟨G,0,none⟩)) v1 v2 (.pointer (some ⟨D,0,none⟩)) (.pointer (some ⟨G,0,none⟩)) (.pointer (some ⟨G,0,none⟩)) (.pointer (some ⟨G,0,none⟩)) (.pointer (some ⟨G,0,none⟩)) v8 (.agg (pcL p).toArray) (.slice (some ⟨wd.heap.size,0,none⟩) 1 1) v11 v12 v13) (by kernel_rfl) ?_)
  refine want_k 4 (ops25_1_4 ps) fun K hK => ?_
  have hc : (wd.alloc (.cells (pcL p).toArray 122)).cell? ⟨G,0,none⟩ = some (.slice va vn vc) := by rw [Lib.cell_of_heap ((Below.heap_alloc _ _ _ hGl).trans hG)]; rfl
  unfold fr25 ops25_1_4
  go_simp
  exact hK _ _ (hS.alloc _) (cast_h (fr25 (.pointer (some ⟨G,0,none⟩)) v1 v2 (.pointer (some ⟨D,0,none⟩)) (.pointer (some ⟨G,0,none⟩)) (.pointer (some ⟨G,0,none⟩)) (.pointer (some ⟨G,0,none⟩)) (.pointer (some ⟨G,0,none⟩)) (.slice va vn vc) (.agg (pcL p).toArray) (.slice (some ⟨wd.heap.size,0,none⟩) 1 1) v11 v12 v13) (by kernel_rfl) tail)
end Go.Proofs.YtaphggjakaghjaaGreatDoor
