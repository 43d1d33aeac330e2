/-
  What is proved here: two regions of the document's Between.
  What is proved here: what the document's Between answers.
-/
import Derived.Test.YtaphggjakaghjaaGreatDoorG38
import Derived.Test.YtaphggjakaghjaaGreatDoorG35
namespace Go.Proofs.YtaphggjakaghjaaGreatDoor
open Go.RowKit Go.Shelf
set_option maxRecDepth 100000
set_option maxHeartbeats 4000000

def opRf7 (ps : String) : Array Oper := #[⟨some 33,.fieldAddr 39 (.tmp 3) 2,0,ps,#[],none⟩,⟨some 34,.load 37 (.tmp 33),37,ps,#[⟨0,.data⟩],none⟩,⟨some 35,.move (.tmp 9),3,ps,#[],none⟩,⟨some 36,.indexAddr 37 (.tmp 34) (.tmp 35),0,ps,#[⟨1,.data⟩,⟨2,.data⟩],none⟩,⟨some 37,.fieldAddr 46 (.tmp 36) 0,0,ps,#[⟨3,.data⟩],none⟩,⟨some 38,.load 3 (.tmp 37),3,ps,#[⟨4,.data⟩],none⟩,⟨some 39,.fieldAddr 39 (.tmp 3) 2,0,ps,#[],none⟩,⟨some 40,.load 37 (.tmp 39),37,ps,#[⟨6,.data⟩],none⟩,⟨some 41,.move (.tmp 9),3,ps,#[],none⟩,⟨some 42,.indexAddr 37 (.tmp 40) (.tmp 41),0,ps,#[⟨7,.data⟩,⟨8,.data⟩],none⟩,⟨some 43,.fieldAddr 46 (.tmp 42) 1,0,ps,#[⟨9,.data⟩],none⟩,⟨some 44,.load 3 (.tmp 43),3,ps,#[⟨10,.data⟩],none⟩,⟨some 45,.build 46 #[(0,.tmp 38),(1,.tmp 44)],46,ps,#[⟨5,.data⟩,⟨11,.data⟩],none⟩,⟨some 10,.alloc 46,0,ps,#[],none⟩,⟨none,.store 46 (.tmp 10) (.tmp 45),0,ps,#[⟨13,.data⟩,⟨12,.data⟩,⟨0,.phase⟩,⟨1,.phase⟩,⟨2,.phase⟩,⟨3,.phase⟩,⟨4,.phase⟩,⟨5,.phase⟩,⟨6,.phase⟩,⟨7,.phase⟩,⟨8,.phase⟩,⟨9,.phase⟩,⟨10,.phase⟩,⟨11,.phase⟩,⟨12,.phase⟩,⟨13,.phase⟩],none⟩]

theorem rf_r7 (Q : Exit → Act → World → Prop) (hQ : ∀ c x (n : Nat) v w,Q (.panic c) (x.put (some n) v) w → Q (.panic c) x w) (id : Nat) (ps : String) (B0 b o nc cc k : Nat) (x y : Int) (v : Value) (v0 v1 v2 v4 v5 v6 v7 v8 xa xb xc xd xe xf xg xh xi xj xk xl xm xn xo xp xq xr xt xu xv xw xx xy xz xA xB xC xD xE xF xG xH xI xJ xK xL xM xN xO xP xQ xR xS xT xU xV xW xX xY xZ ya yb yc yd ye yf yg yh yi yj yk yl ym yn yo yp yq yr yt yu yv yw yx yy yz yA : Value) (W : World)
  (hka : (k : Int) < (nc : Int)) (hB0 : B0 < W.heap.size) (hb2 : W.cell? ⟨B0,2,none⟩ = some (.slice (some ⟨b,o,none⟩) nc cc)) (hc : CeR b (o + k * 3) x y v W)
  (hK : ∀ W',Below W.heap.size W W' → W'.heap.size = W.heap.size + 1 → W'.heap[W.heap.size]? = some (.cells #[.int .i64 x,.int .i64 y,.slice none 0 0] 46 (0,0)) → Q .normal { tmps := #[v0,v1,v2,.pointer (some ⟨B0,0,none⟩),v4,v5,v6,v7,v8,.int .i64 (k : Nat),.pointer (some ⟨W.heap.size,0,none⟩),xb,xc,xd,xe,xf,xg,xh,xi,xj,xk,xl,xm,xn,xo,xp,xq,xr,xt,xu,xv,xw,xx,.pointer (some ⟨B0,2,none⟩),.slice (some ⟨b,o,none⟩) nc cc,.int .i64 (k : Nat),.pointer (some ⟨b,o + k * 3,none⟩),.pointer (some ⟨b,o + k * 3,none⟩),.int .i64 x,.pointer (some ⟨B0,2,none⟩),.slice (some ⟨b,o,none⟩) nc cc,.int .i64 (k : Nat),.pointer (some ⟨b,o + k * 3,none⟩),.pointer (some ⟨b,o + k * 3 + 1,none⟩),.int .i64 y,.agg #[.int .i64 x,.int .i64 y,.slice none 0 0],xL,xM,xN,xO,xP,xQ,xR,xS,xT,xU,xV,xW,xX,xY,xZ,ya,yb,yc,yd,ye,yf,yg,yh,yi,yj,yk,yl,ym,yn,yo,yp,yq,yr,yt,yu,yv,yw,yx,yy,yz,yA],defers := [] } W') :
  (Code.region id (opRf7 ps) true).wp Tryz.prog Q { tmps := #[v0,v1,v2,.pointer (some ⟨B0,0,none⟩),v4,v5,v6,v7,v8,.int .i64 (k : Nat),xa,xb,xc,xd,xe,xf,xg,xh,xi,xj,xk,xl,xm,xn,xo,xp,xq,xr,xt,xu,xv,xw,xx,xy,xz,xA,xB,xC,xD,xE,xF,xG,xH,xI,xJ,xK,xL,xM,xN,xO,xP,xQ,xR,xS,xT,xU,xV,xW,xX,xY,xZ,ya,yb,yc,yd,ye,yf,yg,yh,yi,yj,yk,yl,ym,yn,yo,yp,yq,yr,yt,yu,yv,yw,yx,yy,yz,yA],defers := [] } W := by
 have hS : Below W.heap.size W W.drew := below_drew W
 refine wp_region_held (S := fun w => Below W.heap.size W w) (by kernel_rfl) ?_
 change wpAnyH _ _ _ _ _ 15 _ _ (World.drew W)
 have hVs : W.drew.heap.size = W.heap.size := rfl
 generalize W.drew = V at hS hVs ⊢
 unfold opRf7
 refine wpAnyH_take (i := 0) (v := .pointer (some ⟨B0,2,none⟩)) rfl (by kernel_rfl) (by kernel_rfl) (by kernel_rfl) (fun c x w => hQ c x _ _ w) (Or.inl ⟨by rfl,?y0⟩) hS ?_
 case y0 => (intro w' hw'; go_simp)
 go_simp
 refine wpAnyH_take (i := 1) (v := .slice (some ⟨b,o,none⟩) nc cc) rfl (by kernel_rfl) (by kernel_rfl) (by kernel_rfl) (fun c x w => hQ c x _ _ w) (Or.inl ⟨by rfl,?y1⟩) hS ?_
 case y1 => (intro w' hw'; have b2 := (hw'.cell hB0).trans hb2; go_simp)
 go_simp
 refine wpAnyH_take (i := 2) (v := .int .i64 (k : Nat)) rfl (by kernel_rfl) (by kernel_rfl) (by kernel_rfl) (fun c x w => hQ c x _ _ w) (Or.inl ⟨by rfl,?y2⟩) hS ?_
 case y2 => (intro w' hw'; go_simp)
 go_simp
 refine wpAnyH_take (i := 3) (v := .pointer (some ⟨b,o + k * 3,none⟩)) rfl (by kernel_rfl) (by kernel_rfl) (by kernel_rfl) (fun c x w => hQ c x _ _ w) (Or.inl ⟨by rfl,?y3⟩) hS ?_
 case y3 => (intro w' hw'; go_simp)
 go_simp
 refine wpAnyH_take (i := 4) (v := .pointer (some ⟨b,o + k * 3,none⟩)) rfl (by kernel_rfl) (by kernel_rfl) (by kernel_rfl) (fun c x w => hQ c x _ _ w) (Or.inl ⟨by rfl,?y4⟩) hS ?_
 case y4 => (intro w' hw'; go_simp)
 go_simp
 refine wpAnyH_take (i := 5) (v := .int .i64 x) rfl (by kernel_rfl) (by kernel_rfl) (by kernel_rfl) (fun c x w => hQ c x _ _ w) (Or.inl ⟨by rfl,?y5⟩) hS ?_
 case y5 => (intro w' hw'; have hc' := hc.below hw'; have c0 := hc'.c0; have c1 := hc'.c1; go_simp)
 go_simp
 refine wpAnyH_take (i := 6) (v := .pointer (some ⟨B0,2,none⟩)) rfl (by kernel_rfl) (by kernel_rfl) (by kernel_rfl) (fun c x w => hQ c x _ _ w) (Or.inl ⟨by rfl,?y6⟩) hS ?_
 case y6 => (intro w' hw'; go_simp)
 go_simp
 refine wpAnyH_take (i := 7) (v := .slice (some ⟨b,o,none⟩) nc cc) rfl (by kernel_rfl) (by kernel_rfl) (by kernel_rfl) (fun c x w => hQ c x _ _ w) (Or.inl ⟨by rfl,?y7⟩) hS ?_
 case y7 => (intro w' hw'; have b2 := (hw'.cell hB0).trans hb2; go_simp)
 go_simp
 refine wpAnyH_take (i := 8) (v := .int .i64 (k : Nat)) rfl (by kernel_rfl) (by kernel_rfl) (by kernel_rfl) (fun c x w => hQ c x _ _ w) (Or.inl ⟨by rfl,?y8⟩) hS ?_
 case y8 => (intro w' hw'; go_simp)
 go_simp
 refine wpAnyH_take (i := 9) (v := .pointer (some ⟨b,o + k * 3,none⟩)) rfl (by kernel_rfl) (by kernel_rfl) (by kernel_rfl) (fun c x w => hQ c x _ _ w) (Or.inl ⟨by rfl,?y9⟩) hS ?_
 case y9 => (intro w' hw'; go_simp)
 go_simp
 refine wpAnyH_take (i := 10) (v := .pointer (some ⟨b,o + k * 3 + 1,none⟩)) rfl (by kernel_rfl) (by kernel_rfl) (by kernel_rfl) (fun c x w => hQ c x _ _ w) (Or.inl ⟨by rfl,?y10⟩) hS ?_
 case y10 => (intro w' hw'; go_simp)
 go_simp
 refine wpAnyH_take (i := 11) (v := .int .i64 y) rfl (by kernel_rfl) (by kernel_rfl) (by kernel_rfl) (fun c x w => hQ c x _ _ w) (Or.inl ⟨by rfl,?y11⟩) hS ?_
 case y11 => (intro w' hw'; have hc' := hc.below hw'; have c0 := hc'.c0; have c1 := hc'.c1; go_simp)
 go_simp
 refine wpAnyH_take (i := 12) (v := .agg #[.int .i64 x,.int .i64 y,.slice none 0 0]) rfl (by kernel_rfl) (by kernel_rfl) (by kernel_rfl) (fun c x w => hQ c x _ _ w) (Or.inl ⟨by rfl,?y12⟩) hS ?_
 case y12 => (intro w' hw'; go_simp)
 go_simp
 refine want_h (i := 13) (by kernel_rfl) rfl (by kernel_rfl) fun K hK' => ?_
 go_simp
 have hb1 : Below W.heap.size W (V.alloc (.cells #[.int .i64 0,.int .i64 0,.slice none 0 0] 46)) := hS.alloc hS.size _
 refine hK' _ _ hb1 ?_
 clear hK' K
 go_simp
 have z0 : (V.alloc (.cells #[.int .i64 0,.int .i64 0,.slice none 0 0] 46)).heap[W.heap.size]? = some (.cells #[.int .i64 0,.int .i64 0,.slice none 0 0] 46 (0,0)) := by rw [← hVs]; exact World.alloc_heap_new V _
 have hs1 : (V.alloc (.cells #[.int .i64 0,.int .i64 0,.slice none 0 0] 46)).heap.size = W.heap.size + 1 := by rw [World.size_alloc,hVs]
 generalize V.alloc (.cells #[.int .i64 0,.int .i64 0,.slice none 0 0] 46) = w1 at *
 have hT := Turns.setRow (X := fun j => j = W.heap.size) w1 (r := W.heap.size) rfl #[.int .i64 x,.int .i64 y,.slice none 0 0]
 have hB2 : Below W.heap.size W (w1.setRow W.heap.size #[.int .i64 x,.int .i64 y,.slice none 0 0]) := hb1.trans (hT.below hb1.size (fun j hj => by omega))
 have hQ1 := hK _ hB2 (by simpa using hs1) (setRow_heap _ _ _ (#[.int .i64 x,.int .i64 y,.slice none 0 0] : Array Value) _ _ z0)
 refine want_h (i := 14) (by kernel_rfl) rfl (by kernel_rfl) fun K hK' => ?_
 refine wp_store_row 46 _ _ rfl W.heap.size #[.int .i64 x,.int .i64 y,.slice none 0 0] rfl rfl 46 _ z0 (info46 _ _ _) rfl (one46 _ _ _ _ _) ?_
 exact hK' _ _ hB2 (wpAnyH_done (by kernel_rfl) hQ1 _)
theorem load55m {a : Act} {w : World} {b o : Nat} {x : Lx} {oi : Oper} {z : Operand} (h : w.rangeAt b o (lxL x)) (ho : oi.op = .load 55 z) (hx : a.eval z = .pointer (some ⟨b,o,none⟩)) : (execOp a.eval oi).run Tryz.prog w = .ok (.value (.agg (lxL x).toArray)) w := by
 have hl := run_loadVar_mid (P := Tryz.prog) w b o 55 (lxL x) _ h Tryz.underlying55 rfl (info55n x)
 simp [execOp,ho,hx,Instr.loadAt,Instr.sureAddr,hl]
def opRf13 (ps : String) : Array Oper := #[⟨some 68,.fieldAddr 46 (.tmp 10) 2,0,ps,#[],none⟩,⟨some 69,.load 44 (.tmp 68),44,ps,#[⟨0,.data⟩],none⟩,⟨some 70,.fieldAddr 39 (.tmp 3) 2,0,ps,#[],none⟩,⟨some 71,.load 37 (.tmp 70),37,ps,#[⟨2,.data⟩],none⟩,⟨some 72,.move (.tmp 9),3,ps,#[],none⟩,⟨some 73,.indexAddr 37 (.tmp 71) (.tmp 72),0,ps,#[⟨3,.data⟩,⟨4,.data⟩],none⟩,⟨some 74,.fieldAddr 46 (.tmp 73) 2,0,ps,#[⟨5,.data⟩],none⟩,⟨some 75,.load 44 (.tmp 74),44,ps,#[⟨6,.data⟩],none⟩,⟨some 76,.move (.tmp 11),3,ps,#[],none⟩,⟨some 77,.indexAddr 44 (.tmp 75) (.tmp 76),0,ps,#[⟨7,.data⟩,⟨8,.data⟩],none⟩,⟨some 78,.load 55 (.tmp 77),55,ps,#[⟨9,.data⟩],none⟩,⟨some 79,.buildSlice 44 1 #[(0,.tmp 78)],44,ps,#[⟨10,.data⟩],none⟩,⟨some 80,.call ⟨.builtin .append,#[.tmp 69,.tmp 79],#[44,44]⟩,44,ps,#[⟨1,.data⟩,⟨11,.data⟩],none⟩,⟨some 81,.fieldAddr 46 (.tmp 10) 2,0,ps,#[⟨0,.phase⟩,⟨1,.phase⟩,⟨2,.phase⟩,⟨3,.phase⟩,⟨4,.phase⟩,⟨5,.phase⟩,⟨6,.phase⟩,⟨7,.phase⟩,⟨8,.phase⟩,⟨9,.phase⟩,⟨10,.phase⟩,⟨11,.phase⟩,⟨12,.phase⟩],none⟩,⟨none,.store 44 (.tmp 81) (.tmp 80),0,ps,#[⟨13,.data⟩,⟨12,.data⟩,⟨12,.chain⟩,⟨0,.phase⟩,⟨1,.phase⟩,⟨2,.phase⟩,⟨3,.phase⟩,⟨4,.phase⟩,⟨5,.phase⟩,⟨6,.phase⟩,⟨7,.phase⟩,⟨8,.phase⟩,⟨9,.phase⟩,⟨10,.phase⟩,⟨11,.phase⟩,⟨12,.phase⟩],none⟩]

theorem rf_r13 (Q : Exit → Act → World → Prop) (hQ : ∀ c x (n : Nat) v w,Q (.panic c) (x.put (some n) v) w → Q (.panic c) x w) (id : Nat) (ps : String) (B0 b o nc cc k gB lb lo ln lc n : Nat) (x y : Int) (z : Lx) (la : Option Addr) (c0 : Nat) (qs : List Lx) (v0 v1 v2 v4 v5 v6 v7 v8 xc xd xe xf xg xh xi xj xk xl xm xn xo xp xq xr xt xu xv xw xx xy xz xA xB xC xD xE xF xG xH xI xJ xK xL xM xN xO xP xQ xR xS xT xU xV xW xX xY xZ ya yb yc yd ye yf yg yh yi yj yk yl ym yn yo yp yq yr yt yu yv yw yx yy yz yA : Value) (W : World)
  (hka : (k : Int) < (nc : Int)) (hkn : (n : Int) < (ln : Int)) (hB0 : B0 < gB) (hbl : b < gB) (hll : lb < gB) (hgW : gB < W.heap.size) (hq : qs.length ≤ 9000) (hb2 : W.cell? ⟨B0,2,none⟩ = some (.slice (some ⟨b,o,none⟩) nc cc)) (hc2 : W.cell? ⟨b,o + k * 3 + 2,none⟩ = some (.slice (some ⟨lb,lo,none⟩) ln lc)) (hz : W.rangeAt lb (lo + n * 7) (lxL z))
  (hbx : W.heap[gB]? = some (.cells #[.int .i64 x,.int .i64 y,.slice la qs.length c0] 46 (0,0))) (hrow : W.ownsRow (gB + 1) 55 7 (.slice la qs.length c0) qs.length (qs.flatMap lxL))
  (hK : ∀ a3 c3 W',W'.ownsRow (gB + 1) 55 7 (.slice a3 (qs.length + 1) c3) (qs ++ [z]).length ((qs ++ [z]).flatMap lxL) → Below (gB + 1) W W' → Q .normal { tmps := #[v0,v1,v2,.pointer (some ⟨B0,0,none⟩),v4,v5,v6,v7,v8,.int .i64 (k : Nat),.pointer (some ⟨gB,0,none⟩),.int .i64 (n : Nat),xc,xd,xe,xf,xg,xh,xi,xj,xk,xl,xm,xn,xo,xp,xq,xr,xt,xu,xv,xw,xx,xy,xz,xA,xB,xC,xD,xE,xF,xG,xH,xI,xJ,xK,xL,xM,xN,xO,xP,xQ,xR,xS,xT,xU,xV,xW,xX,xY,xZ,ya,yb,yc,yd,ye,yf,yg,.pointer (some ⟨gB,2,none⟩),.slice la qs.length c0,.pointer (some ⟨B0,2,none⟩),.slice (some ⟨b,o,none⟩) nc cc,.int .i64 (k : Nat),.pointer (some ⟨b,o + k * 3,none⟩),.pointer (some ⟨b,o + k * 3 + 2,none⟩),.slice (some ⟨lb,lo,none⟩) ln lc,.int .i64 (n : Nat),.pointer (some ⟨lb,lo + n * 7,none⟩),.agg (lxL z).toArray,.slice (some ⟨W.heap.size,0,none⟩) 1 1,.slice a3 (qs.length + 1) c3,.pointer (some ⟨gB,2,none⟩),yw,yx,yy,yz,yA],defers := [] } (W'.setCell ⟨gB,2,none⟩ (.slice a3 (qs.length + 1) c3))) :
  (Code.region id (opRf13 ps) true).wp Tryz.prog Q { tmps := #[v0,v1,v2,.pointer (some ⟨B0,0,none⟩),v4,v5,v6,v7,v8,.int .i64 (k : Nat),.pointer (some ⟨gB,0,none⟩),.int .i64 (n : Nat),xc,xd,xe,xf,xg,xh,xi,xj,xk,xl,xm,xn,xo,xp,xq,xr,xt,xu,xv,xw,xx,xy,xz,xA,xB,xC,xD,xE,xF,xG,xH,xI,xJ,xK,xL,xM,xN,xO,xP,xQ,xR,xS,xT,xU,xV,xW,xX,xY,xZ,ya,yb,yc,yd,ye,yf,yg,yh,yi,yj,yk,yl,ym,yn,yo,yp,yq,yr,yt,yu,yv,yw,yx,yy,yz,yA],defers := [] } W := by
 have hS0 : Below W.heap.size W W.drew := below_drew W
 have hgB : gB ≤ W.heap.size := by omega
 have hS : Below gB W W.drew := hS0.mono hgB
 refine wp_region_held (S := fun w => Below gB W w) (by kernel_rfl) ?_
 change wpAnyH _ _ _ _ _ 15 _ _ (World.drew W)
 have hVs : W.drew.heap.size = W.heap.size := rfl
 have hrd : ∀ (b o : Nat) w',b < gB → Below gB W w' → w'.cell? ⟨b,o,none⟩ = W.cell? ⟨b,o,none⟩ := fun b o w' hb' hB => by
  unfold World.cell?
  rw [hB.block b hb']
 generalize W.drew = V at hS0 hS hVs ⊢
 have zV : V.cell? ⟨gB,2,none⟩ = some (.slice la qs.length c0) := (hS0.cell hgW).trans ((Lib.cell_of_heap hbx _).trans rfl)
 have hrV := ownsRow_below hrow hS0
 have hbs := build55 z V
 unfold opRf13
 refine wpAnyH_take (i := 0) (v := .pointer (some ⟨gB,2,none⟩)) rfl (by kernel_rfl) (by kernel_rfl) (by kernel_rfl) (fun c x w => hQ c x _ _ w) (Or.inl ⟨by rfl,?y0⟩) hS ?_
 case y0 => (intro w' hw'; go_simp)
 go_simp
 refine wpAnyH_take (i := 2) (v := .pointer (some ⟨B0,2,none⟩)) rfl (by kernel_rfl) (by kernel_rfl) (by kernel_rfl) (fun c x w => hQ c x _ _ w) (Or.inl ⟨by rfl,?y2⟩) hS ?_
 case y2 => (intro w' hw'; go_simp)
 go_simp
 refine wpAnyH_take (i := 3) (v := .slice (some ⟨b,o,none⟩) nc cc) rfl (by kernel_rfl) (by kernel_rfl) (by kernel_rfl) (fun c x w => hQ c x _ _ w) (Or.inl ⟨by rfl,?y3⟩) hS ?_
 case y3 => (intro w' hw'; have b2 := (hrd B0 2 w' hB0 hw').trans hb2; go_simp)
 go_simp
 refine wpAnyH_take (i := 4) (v := .int .i64 (k : Nat)) rfl (by kernel_rfl) (by kernel_rfl) (by kernel_rfl) (fun c x w => hQ c x _ _ w) (Or.inl ⟨by rfl,?y4⟩) hS ?_
 case y4 => (intro w' hw'; go_simp)
 go_simp
 refine wpAnyH_take (i := 5) (v := .pointer (some ⟨b,o + k * 3,none⟩)) rfl (by kernel_rfl) (by kernel_rfl) (by kernel_rfl) (fun c x w => hQ c x _ _ w) (Or.inl ⟨by rfl,?y5⟩) hS ?_
 case y5 => (intro w' hw'; go_simp)
 go_simp
 refine wpAnyH_take (i := 6) (v := .pointer (some ⟨b,o + k * 3 + 2,none⟩)) rfl (by kernel_rfl) (by kernel_rfl) (by kernel_rfl) (fun c x w => hQ c x _ _ w) (Or.inl ⟨by rfl,?y6⟩) hS ?_
 case y6 => (intro w' hw'; go_simp)
 go_simp
 refine wpAnyH_take (i := 7) (v := .slice (some ⟨lb,lo,none⟩) ln lc) rfl (by kernel_rfl) (by kernel_rfl) (by kernel_rfl) (fun c x w => hQ c x _ _ w) (Or.inl ⟨by rfl,?y7⟩) hS ?_
 case y7 => (intro w' hw'; have c2 := (hrd b (o + k * 3 + 2) w' hbl hw').trans hc2; go_simp)
 go_simp
 refine wpAnyH_take (i := 8) (v := .int .i64 (n : Nat)) rfl (by kernel_rfl) (by kernel_rfl) (by kernel_rfl) (fun c x w => hQ c x _ _ w) (Or.inl ⟨by rfl,?y8⟩) hS ?_
 case y8 => (intro w' hw'; go_simp)
 go_simp
 refine wpAnyH_take (i := 9) (v := .pointer (some ⟨lb,lo + n * 7,none⟩)) rfl (by kernel_rfl) (by kernel_rfl) (by kernel_rfl) (fun c x w => hQ c x _ _ w) (Or.inl ⟨by rfl,?y9⟩) hS ?_
 case y9 => (intro w' hw'; go_simp)
 go_simp
 refine wpAnyH_take (i := 10) (v := .agg (lxL z).toArray) rfl (by kernel_rfl) (by kernel_rfl) (by kernel_rfl) (fun c x w => hQ c x _ _ w) (Or.inl ⟨by rfl,?y10⟩) hS ?_
 case y10 => (intro w' hw'; exact load55m (b := lb) (o := lo + n * 7) (fun j t ht => (hrd lb _ w' hll hw').trans (hz j t ht)) rfl rfl)
 go_simp
 refine two_h (i := 1) (j := 11) (by kernel_rfl) rfl rfl (by kernel_rfl) (by kernel_rfl) (fun K hK' => ?_) (fun K hK' => ?_)
 ·
  go_simp
  refine hK' _ _ hS ?_
  clear hK' K
  go_simp
  refine want_h (i := 11) (by kernel_rfl) rfl (by kernel_rfl) fun K hK' => ?_
  go_simp
  have hb1 : Below W.heap.size W (V.alloc (.cells (lxL z).toArray 55)) := hS0.alloc hS0.size _
  refine hK' _ _ (hb1.mono hgB) ?_
  clear hK' K
  go_simp
  refine want_h (i := 12) (by kernel_rfl) rfl (by kernel_rfl) fun K hK' => ?_
  refine wp_app1 (k := 7) (f := lxL) (w0 := V) (bytes := 56) el55 lxL_len lxL_one (by omega) (by omega) _ _ rfl (gB + 1) (.slice la qs.length c0) qs z rfl hrV (by omega) hq (by rw [hVs]; rfl) rfl ?_
  intro v' w6 hr6 hb6
  obtain ⟨a3,c3,rfl⟩ : ∃ a c,v' = .slice a (qs.length + 1) c := by
   obtain ⟨a,c,e⟩ := owns_slice hr6
   exact ⟨a,c,by rw [e,List.length_append]; rfl⟩
  have hB6 : Below (gB + 1) W w6 := (hS0.mono (by omega)).trans hb6
  have hQ1 := hK a3 c3 w6 hr6 hB6
  have y6 := (hB6.block gB (by omega)).trans hbx
  have k6 : w6.cell? ⟨gB,2,none⟩ = some (.slice la qs.length c0) := (Lib.cell_of_heap y6 _).trans rfl
  have f6 : w6.frozen? ⟨gB,2,none⟩ = false := Lib.frozen_of_heap y6 _
  have hS6 : Below gB W w6 := hB6.mono (by omega)
  refine hK' _ _ hS6 ?_
  clear hK' K
  go_simp
  refine wpAnyH_take (i := 13) (v := .pointer (some ⟨gB,2,none⟩)) rfl (by kernel_rfl) (by kernel_rfl) (by kernel_rfl) (fun c x w => hQ c x _ _ w) (Or.inl ⟨by rfl,?y13⟩) hS6 ?_
  case y13 => (intro w' hw'; go_simp)
  go_simp
  refine want_h (i := 14) (by kernel_rfl) rfl (by kernel_rfl) fun K hK' => ?_
  go_simp
  exact hK' _ _ (hS6.setCell (p := ⟨gB,2,none⟩) (Nat.le_refl _) _) (wpAnyH_done (by kernel_rfl) hQ1 _)
 ·
  go_simp
  have hb1 : Below W.heap.size W (V.alloc (.cells (lxL z).toArray 55)) := hS0.alloc hS0.size _
  refine hK' _ _ (hb1.mono hgB) ?_
  clear hK' K
  go_simp
  have zA : (V.alloc (.cells (lxL z).toArray 55)).cell? ⟨gB,2,none⟩ = some (.slice la qs.length c0) := ((Below.refl V.heap.size V).alloc (Nat.le_refl _) (.cells (lxL z).toArray 55)).cell (show gB < V.heap.size by omega) |>.trans zV
  refine want_h (i := 1) (by kernel_rfl) rfl (by kernel_rfl) fun K hK' => ?_
  go_simp
  refine hK' _ _ (hb1.mono hgB) ?_
  clear hK' K
  go_simp
  refine want_h (i := 12) (by kernel_rfl) rfl (by kernel_rfl) fun K hK' => ?_
  refine wp_app1 (k := 7) (f := lxL) (w0 := V) (bytes := 56) el55 lxL_len lxL_one (by omega) (by omega) _ _ rfl (gB + 1) (.slice la qs.length c0) qs z rfl hrV (by omega) hq (by rw [hVs]; rfl) rfl ?_
  intro v' w6 hr6 hb6
  obtain ⟨a3,c3,rfl⟩ : ∃ a c,v' = .slice a (qs.length + 1) c := by
   obtain ⟨a,c,e⟩ := owns_slice hr6
   exact ⟨a,c,by rw [e,List.length_append]; rfl⟩
  have hB6 : Below (gB + 1) W w6 := (hS0.mono (by omega)).trans hb6
  have hQ1 := hK a3 c3 w6 hr6 hB6
  have y6 := (hB6.block gB (by omega)).trans hbx
  have k6 : w6.cell? ⟨gB,2,none⟩ = some (.slice la qs.length c0) := (Lib.cell_of_heap y6 _).trans rfl
  have f6 : w6.frozen? ⟨gB,2,none⟩ = false := Lib.frozen_of_heap y6 _
  have hS6 : Below gB W w6 := hB6.mono (by omega)
  refine hK' _ _ hS6 ?_
  clear hK' K
  go_simp
  refine wpAnyH_take (i := 13) (v := .pointer (some ⟨gB,2,none⟩)) rfl (by kernel_rfl) (by kernel_rfl) (by kernel_rfl) (fun c x w => hQ c x _ _ w) (Or.inl ⟨by rfl,?y13⟩) hS6 ?_
  case y13 => (intro w' hw'; go_simp)
  go_simp
  refine want_h (i := 14) (by kernel_rfl) rfl (by kernel_rfl) fun K hK' => ?_
  go_simp
  exact hK' _ _ (hS6.setCell (p := ⟨gB,2,none⟩) (Nat.le_refl _) _) (wpAnyH_done (by kernel_rfl) hQ1 _)
end Go.Proofs.YtaphggjakaghjaaGreatDoor

namespace Go.Proofs.YtaphggjakaghjaaGreatDoor
open Go.RowKit Go.Shelf
set_option maxRecDepth 100000
set_option maxHeartbeats 4000000

theorem rb_no (h : Int) (sv cv : Value) (f t : Int) (hr : ¬ (0 ≤ f ∧ f ≤ t ∧ t ≤ h)) (w : World) : Calls Tryz.prog 22 #[.agg #[.int .i64 h,sv,cv],.int .i64 f,.int .i64 t] w fun e w' => e = .returned (.tuple #[.slice none 0 0,.int .i64 5]) ∧ Below w.heap.size w w' := by
 have hB := (Below.refl w.heap.size w).alloc (Nat.le_refl _) (.cells #[.int .i64 h,sv,cv] 39)
 have c0 : (w.alloc (.cells #[.int .i64 h,sv,cv] 39)).cell? ⟨w.heap.size,0,none⟩ = some (.int .i64 h) := by rw [Lib.cell_of_heap (World.alloc_heap_new w _)]; rfl
 by_cases h1 : f < 0
 ·go_enter Tryz.func22,Tryz.ntmps22
  go_wp2_with fail
  go_ret2
  exact ⟨rfl,hB⟩
 ·by_cases h2 : t < f
  ·go_enter Tryz.func22,Tryz.ntmps22
   go_wp2_with fail
   go_ret2
   exact ⟨rfl,hB⟩
  ·have h3 : h < t := by omega
   go_enter Tryz.func22,Tryz.ntmps22
   go_wp2_with fail
   go_ret2
   exact ⟨rfl,hB⟩
structure RfI (w1 : World) (gB : Nat) (x y : Int) (ls : List Lx) (f t : Int) (n : Nat) (W : World) : Prop where
 low : Below gB w1 W
 lt : gB < W.heap.size
 ex : ∃ la c0,W.heap[gB]? = some (.cells #[.int .i64 x,.int .i64 y,.slice la (wiN ls f t n).length c0] 46 (0,0)) ∧ W.ownsRow (gB + 1) 55 7 (.slice la (wiN ls f t n).length c0) (wiN ls f t n).length ((wiN ls f t n).flatMap lxL)
theorem RfI.skip {w1 : World} {gB : Nat} {x y : Int} {ls : List Lx} {f t : Int} {n : Nat} {W : World} (h : RfI w1 gB x y ls f t n W) (hn : ¬ wiB f t n) : RfI w1 gB x y ls f t (n + 1) W := by
 have e : wiN ls f t (n + 1) = wiN ls f t n := by
  show wiN ls f t n ++ (if wiB f t n then [ls.getD n lx0] else []) = _
  rw [if_neg hn,List.append_nil]
 exact ⟨h.low,h.lt,by rw [e]; exact h.ex⟩
theorem RfI.put {w1 : World} {gB : Nat} {x y : Int} {ls : List Lx} {f t : Int} {n : Nat} {W W' : World} {a0 : Option Addr} {k0 : Nat} (h : RfI w1 gB x y ls f t n W) (hbx : W.heap[gB]? = some (.cells #[.int .i64 x,.int .i64 y,.slice a0 (wiN ls f t n).length k0] 46 (0,0))) (hn : wiB f t n) (hlt : n < ls.length) {a3 : Option Addr} {c3 : Nat} (ho : W'.ownsRow (gB + 1) 55 7 (.slice a3 ((wiN ls f t n).length + 1) c3) (wiN ls f t n ++ [ls[n]]).length ((wiN ls f t n ++ [ls[n]]).flatMap lxL)) (hb : Below (gB + 1) W W') :
  RfI w1 gB x y ls f t (n + 1) (W'.setCell ⟨gB,2,none⟩ (.slice a3 ((wiN ls f t n).length + 1) c3)) := by
 have hgd : ls.getD n lx0 = ls[n] := by rw [List.getD_eq_getElem?_getD,List.getElem?_eq_getElem hlt]; rfl
 have e : wiN ls f t (n + 1) = wiN ls f t n ++ [ls[n]] := by
  show wiN ls f t n ++ (if wiB f t n then [ls.getD n lx0] else []) = _
  rw [if_pos hn,hgd]
 have hT := Turns.setCell (X := fun j => j = gB) W' (p := ⟨gB,2,none⟩) rfl (.slice a3 ((wiN ls f t n).length + 1) c3)
 have hl := h.lt
 have hs := hb.size
 have hlow : Below gB w1 W' := h.low.trans (hb.mono (by omega))
 refine ⟨hlow.trans (hT.below (by omega) (fun j hj => by omega)),Nat.lt_of_lt_of_le (Nat.lt_of_lt_of_le hl hs) hT.size,a3,c3,?_,?_⟩
 ·rw [e,List.length_append]
  exact heap_setCell_same W' gB 2 _ 46 _ ((hb.block gB (by omega)).trans hbx)
 ·rw [e,List.length_append]
  have ho' := ownsRow_turns ho hT (fun g hg e => by have := (ho.lt g hg).1; omega)
  rw [List.length_append] at ho'
  exact ho'
def RbEnd (cs : List Cel) (f t : Int) (w : World) (e : Ending) (w' : World) : Prop := (∃ (v : Value) (d : List Cel),e = .returned (.tuple #[v,.int .i64 0]) ∧ d.length = cs.length ∧ RecAt 3 ceL w' v d ∧ ∀ i (h : i < d.length),BtIs f t (cs.getD i ce0) d[i] ∧ LxsAt w' d[i].v d[i].ls) ∧ Below w.heap.size w w'
def cutc (f t : Int) (c : Cel) : Cel := { c with ls := wiL c.ls f t }
theorem cutc_get (cs : List Cel) (f t : Int) {k : Nat} (hk : k < cs.length) : (cs.map (cutc f t)).getD k ce0 = cutc f t (cs.getD k ce0) := by
 have h' : k < (cs.map (cutc f t)).length := by rw [List.length_map]; exact hk
 rw [List.getD_eq_getElem?_getD,List.getElem?_eq_getElem h',List.getD_eq_getElem?_getD,List.getElem?_eq_getElem hk]
 simp
theorem rb_yes (h : Int) (sv cv : Value) (cs : List Cel) (f t : Int) (hr : 0 ≤ f ∧ f ≤ t ∧ t ≤ h) (hn : cs.length ≤ 400) (hls : ∀ c ∈ cs,c.ls.length ≤ 8000) (w : World) (hC : RecAt 3 ceL w cv cs) (hL : ∀ c ∈ cs,LxsAt w c.v c.ls) :
  Calls Tryz.prog 22 #[.agg #[.int .i64 h,sv,cv],.int .i64 f,.int .i64 t] w (RbEnd cs f t w) := by
 obtain ⟨r1,r2,r3⟩ := hr
 have q1 : ¬ f < 0 := by omega
 have q2 : ¬ t < f := by omega
 have q3 : ¬ h < t := by omega
 obtain ⟨a0,c0',rfl,-⟩ := hC.ex
 have hB0 := (Below.refl w.heap.size w).alloc (Nat.le_refl _) (.cells #[.int .i64 h,sv,.slice a0 cs.length c0'] 39)
 have hs1 : (w.alloc (.cells #[.int .i64 h,sv,.slice a0 cs.length c0'] 39)).heap.size = w.heap.size + 1 := World.size_alloc _ _
 have k0 : (w.alloc (.cells #[.int .i64 h,sv,.slice a0 cs.length c0'] 39)).cell? ⟨w.heap.size,0,none⟩ = some (.int .i64 h) := by rw [Lib.cell_of_heap (World.alloc_heap_new w _)]; rfl
 have k2 : (w.alloc (.cells #[.int .i64 h,sv,.slice a0 cs.length c0'] 39)).cell? ⟨w.heap.size,2,none⟩ = some (.slice a0 cs.length c0') := by rw [Lib.cell_of_heap (World.alloc_heap_new w _)]; rfl
 have hC0 := hC.below hB0 (Nat.le_refl _)
 have hL0 := fun c hc => (hL c hc).below hB0 (Nat.le_refl _)
 generalize hw0 : (w.alloc (.cells #[.int .i64 h,sv,.slice a0 cs.length c0'] 39)) = w0 at *
 have hw0h : Hid ((w.alloc (.cells #[.int .i64 h,sv,.slice a0 cs.length c0'] 39)) = w0) := hw0
 have hbox : Hid (∀ W,Below w0.heap.size w0 W → W.cell? ⟨w.heap.size,2,none⟩ = some (.slice a0 cs.length c0') ∧ w.heap.size < W.heap.size) := fun W hb => ⟨(hb.cell (show w.heap.size < w0.heap.size by omega)).trans k2,by have := hb.size; omega⟩
 have hat : Hid (∀ k,k < cs.length → ∀ W,Below w0.heap.size w0 W → ∃ (b o : Nat) (x y : Int) (la : Option Addr) (lc : Nat) (ls : List Lx),a0 = some ⟨b,o,none⟩ ∧ CeR b (o + k * 3) x y (.slice la ls.length lc) W ∧ LxsAt W (.slice la ls.length lc) ls ∧ ls.length ≤ 8000 ∧ (cs.getD k ce0).x = x ∧ (cs.getD k ce0).w = y ∧ (cs.getD k ce0).ls = ls) := fun k hk W hb => by
  obtain ⟨b,o,rfl,hbl,hrg⟩ := RecAt.range (hC0.below hb (Nat.le_refl _)) hk
  have hg : cs.getD k ce0 = cs[k] := by rw [List.getD_eq_getElem?_getD,List.getElem?_eq_getElem hk]; rfl
  have hm := List.getElem_mem hk
  have hl := (hL0 _ hm).below hb (Nat.le_refl _)
  obtain ⟨la,lc,hv,-⟩ := hl.ex
  refine ⟨b,o,cs[k].x,cs[k].w,la,lc,cs[k].ls,rfl,⟨hbl,?_,?_,?_⟩,by rw [← hv]; exact hl,hls _ hm,by rw [hg],by rw [hg],by rw [hg]⟩
  ·exact hrg 0 _ rfl
  ·exact hrg 1 _ rfl
  ·rw [← hv]; exact hrg 2 _ rfl
 have hend : Hid (∀ W v',JI w0 (cs.map (cutc f t)) [] cs.length v' W → RbEnd cs f t w (.returned (.tuple #[v',.int .i64 0])) W) := fun W v' hI => by
  obtain ⟨d,hd,hr,hc⟩ := hI.ex
  refine ⟨⟨v',d,rfl,hd,rec_of_row ceL_len rfl hr,fun i hi => ⟨?_,rec_of_row lxL_len rfl (hc i hi).2.1⟩⟩,hB0.trans (hI.low.mono (by omega))⟩
  obtain ⟨e1,e2,e3⟩ := (hc i hi).1
  rw [cutc_get cs f t (by omega)] at e1 e2 e3
  exact ⟨e1,e2,e3.trans (List.append_nil _)⟩
 have hI0 : Hid (JI w0 (cs.map (cutc f t)) [] 0 (.slice none 0 0) w0) := ⟨Below.refl _ _,[],rfl,World.ownsRow_nil _ _ _ _,fun i hi => by simp at hi⟩
 generalize RbEnd cs f t w = E at *
 generalize hB0n : w.heap.size = B0 at *
 clear hC hL hls hB0 hs1 r1 r2 r3 hC0 hL0 hw0
 go_enter Tryz.func22,Tryz.ntmps22
 go_wp2_with fail
 rw [hw0h.out]
 clear hw0h k0 q1 q2 q3
 go_loopw [8,9] (fun v8 v9 wr => ∃ (k : Nat) (a : Option Addr) (c : Nat),k ≤ cs.length ∧ v9 = .int .i64 (k : Int) ∧ v8 = .slice a k c ∧ Hid (JI w0 (cs.map (cutc f t)) [] k (.slice a k c) wr)) (fun _ v9 _ => cs.length - (intOf v9).toNat)
 case atStart => exact ⟨0,none,0,by omega,rfl,rfl,hI0⟩
 case round =>
  obtain ⟨k,ra,rc,hk,rfl,rfl,hI⟩ := hrel
  clear hI0 k2
  obtain ⟨kb,hbl⟩ := hbox.out wr hI.out.low
  by_cases hlt : k < cs.length
  ·have hlt' : (k : Int) < (cs.length : Int) := by omega
   obtain ⟨b,o,x,y,la,lc,ls,rfl,hCe,hl,h8,e1,e2,e3⟩ := hat.out k hlt wr hI.out.low
   have hrest : Hid (∀ W n,RfI wr wr.heap.size x y ls f t n W → W.cell? ⟨B0,2,none⟩ = some (.slice (some ⟨b,o,none⟩) cs.length c0') ∧ W.cell? ⟨b,o + k * 3 + 2,none⟩ = some (.slice la ls.length lc)) := fun W n hR => ⟨(hR.low.cell hbl).trans kb,(hR.low.cell hCe.lt).trans hCe.c2⟩
   have hlx : Hid (∀ n (h : n < ls.length),∃ lb lo,la = some ⟨lb,lo,none⟩ ∧ lb < wr.heap.size ∧ ∀ W m,RfI wr wr.heap.size x y ls f t m W → W.rangeAt lb (lo + n * 7) (lxL ls[n])) := fun n hn => by
    obtain ⟨lb,lo,e,hlb,hrg⟩ := RecAt.range hl hn
    exact ⟨lb,lo,e,hlb,fun W m hR j v hv => (hR.low.cell hlb).trans (hrg j v hv)⟩
   have hstart : Hid (∀ W',Below wr.heap.size wr W' → W'.heap.size = wr.heap.size + 1 → W'.heap[wr.heap.size]? = some (.cells #[.int .i64 x,.int .i64 y,.slice none 0 0] 46 (0,0)) → RfI wr wr.heap.size x y ls f t 0 W') := fun W' h1 h2 h3 => ⟨h1,by omega,none,0,h3,World.ownsRow_nil _ _ _ _⟩
   have hfin : Hid (∀ W,RfI wr wr.heap.size x y ls f t ls.length W → ∃ (a3 : Option Addr) (m c3 : Nat) (ra' : Option Addr) (rc' : Nat) (w8 : World),W.heap[wr.heap.size]? = some (.cells #[.int .i64 x,.int .i64 y,.slice a3 m c3] 46 (0,0)) ∧ Hid ((Builtin.append_ #[37,37] 37 #[.slice ra k rc,.slice (some ⟨W.heap.size,0,none⟩) 1 1]).run Tryz.prog (W.alloc (.cells #[.int .i64 x,.int .i64 y,.slice a3 m c3] 46)) = .ok (.slice ra' (k + 1) rc') w8) ∧ Hid (JI w0 (cs.map (cutc f t)) [] (k + 1) (.slice ra' (k + 1) rc') w8)) := fun W hR => by
    obtain ⟨a3,c3,hbx,hro⟩ := hR.ex
    have hJ : JnIs ((cs.map (cutc f t)).getD k ce0) ((([] : List Cel)).getD k ce0) ⟨x,y,.slice a3 (wiN ls f t ls.length).length c3,wiN ls f t ls.length⟩ := by
     rw [cutc_get cs f t hlt]
     exact ⟨e1.symm,e2.symm,by show _ = wiL (cs.getD k ce0).ls f t ++ []; rw [e3,List.append_nil]; rfl⟩
    obtain ⟨ra',rc',w8,hrun,hI8⟩ := hI.out.step (by omega) hR.low hJ (ownsRow_base hro (by omega))
    exact ⟨a3,_,c3,ra',rc',w8,hbx,hrun,hI8⟩
   have h8h : Hid (ls.length ≤ 8000) := h8
   have hlts : Hid (B0 < wr.heap.size ∧ b < wr.heap.size) := ⟨hbl,hCe.lt⟩
   clear hbox hat hend hI hl h8 e1 e2 e3
   go_wp2_with fail
   refine rf_r7 _ ?_ _ _ B0 b o cs.length c0' k x y (.slice la ls.length lc) _ _ _ _ _ _ _ _ _ _ _ _ _ _ _ _ _ _ _ _ _ _ _ _ _ _ _ _ _ _ _ _ _ _ _ _ _ _ _ _ _ _ _ _ _ _ _ _ _ _ _ _ _ _ _ _ _ _ _ _ _ _ _ _ _ _ _ _ _ _ _ _ _ _ _ _ _ _ _ _ _ _ _ _ _ wr hlt' hbl kb hCe ?_
   ·exact fun _ _ _ _ _ h => h
   intro w5 hb5 hs5 hz5
   have hS5 : Hid (RfI wr wr.heap.size x y ls f t 0 w5) := hstart.out w5 hb5 hs5 hz5
   clear hstart hb5 hs5 hz5 hbl kb hCe
   generalize wr.heap.size = gB at *
   generalize wr = w1 at *
   go_wp2_with fail
   go_loopw [11] (fun v11 W => ∃ n : Nat,n ≤ ls.length ∧ v11 = .int .i64 (n : Int) ∧ Hid (RfI w1 gB x y ls f t n W)) (fun v11 _ => ls.length - (intOf v11).toNat)
   case atStart => exact ⟨0,by omega,rfl,hS5⟩
   case round =>
    obtain ⟨n,hn',rfl,hR⟩ := hrel
    clear hS5
    obtain ⟨kb',kc'⟩ := hrest.out wr n hR.out
    by_cases hln : n < ls.length
    ·have hln' : (n : Int) < (ls.length : Int) := by omega
     obtain ⟨lb,lo,rfl,hlb,hz⟩ := hlx.out n hln
     have h80 := h8h.out
     have w1e : IntKind.i64.wrap (10 * (n : Int)) = 10 * (n : Int) := by rw [IntKind.wrap_i64]; omega
     have w2e : IntKind.i64.wrap (2 + 10 * (n : Int)) = 2 + 10 * (n : Int) := by rw [IntKind.wrap_i64]; omega
     have hzh : Hid (wr.rangeAt lb (lo + n * 7) (lxL ls[n])) := hz wr n hR.out
     have hlbh : Hid (lb < gB) := hlb
     clear hz hrest hlx hfin hlb
     by_cases h1 : f ≤ 2 + 10 * (n : Int)
     ·by_cases h2 : 2 + 10 * (n : Int) < t
      ·obtain ⟨a3,c3,hbx,hro⟩ := hR.out.ex
       have hbxh : Hid (wr.heap[gB]? = some (.cells #[.int .i64 x,.int .i64 y,.slice a3 (wiN ls f t n).length c3] 46 (0,0)) ∧ wr.ownsRow (gB + 1) 55 7 (.slice a3 (wiN ls f t n).length c3) (wiN ls f t n).length ((wiN ls f t n).flatMap lxL)) := ⟨hbx,hro⟩
       clear hbx hro
       go_wp2_with fail
       refine rf_r13 _ ?_ _ _ B0 b o cs.length c0' k gB lb lo ls.length lc n x y ls[n] a3 c3 (wiN ls f t n) _ _ _ _ _ _ _ _ _ _ _ _ _ _ _ _ _ _ _ _ _ _ _ _ _ _ _ _ _ _ _ _ _ _ _ _ _ _ _ _ _ _ _ _ _ _ _ _ _ _ _ _ _ _ _ _ _ _ _ _ _ _ _ _ _ _ _ _ _ _ _ _ _ _ _ _ _ _ _ _ _ _ _ wr hlt' hln' hlts.out.1 hlts.out.2 hlbh.out hR.out.lt (by have := wiN_le ls f t n; have := h8h.out; omega) kb' kc' hzh.out hbxh.out.1 hbxh.out.2 ?_
       ·exact fun _ _ _ _ _ h => h
       intro a4 c4 w6 ho hb6
       have hnx : Hid (RfI w1 gB x y ls f t (n + 1) (w6.setCell ⟨gB,2,none⟩ (.slice a4 ((wiN ls f t n).length + 1) c4))) := hR.out.put hbxh.out.1 ⟨h1,h2⟩ hln ho hb6
       clear ho hb6 hR hbxh hzh kb' kc'
       generalize w6.setCell ⟨gB,2,none⟩ (.slice a4 ((wiN ls f t n).length + 1) c4) = w7 at *
       go_wp2_with fail
       exact ⟨⟨n + 1,by omega,rfl,hnx.out⟩,by simp [intOf]; omega⟩
      ·have hnx : Hid (RfI w1 gB x y ls f t (n + 1) wr) := hR.out.skip (fun hb => h2 hb.2)
       clear hR hzh
       go_wp2_with fail
       exact ⟨⟨n + 1,by omega,rfl,hnx.out⟩,by simp [intOf]; omega⟩
     ·have hnx : Hid (RfI w1 gB x y ls f t (n + 1) wr) := hR.out.skip (fun hb => h1 hb.1)
      clear hR hzh
      go_wp2_with fail
      exact ⟨⟨n + 1,by omega,rfl,hnx.out⟩,by simp [intOf]; omega⟩
    ·have hnn : n = ls.length := by omega
     subst hnn
     have hge : ¬ ((ls.length : Nat) : Int) < (ls.length : Int) := by omega
     obtain ⟨a3,m,c3,ra',rc',w8,hbx,hrun,hJ⟩ := hfin.out wr hR.out
     clear hfin hrest hlx hR
     go_wp2_with (first | (refine wpList_load_row rfl 46 _ rfl gB rfl 46 _ (0,0) _ hbx Tryz.underlying46 rfl (info46 _ _ _) ?_) | (refine wpList_build46 rfl _ rfl x y a3 m c3 rfl ?_) | (refine wpList_app_run rfl _ _ 37 rfl (.slice ra k rc) (.slice (some ⟨wr.heap.size,0,none⟩) 1 1) (.slice ra' (k + 1) rc') w8 rfl rfl hrun.out ?_))
     exact ⟨⟨k + 1,ra',rc',by omega,rfl,rfl,hJ.out⟩,by simp [intOf]; omega⟩
  ·have hkn : k = cs.length := by omega
   subst hkn
   have hge : ¬ ((cs.length : Nat) : Int) < (cs.length : Int) := by omega
   clear hat hbox
   go_wp2_with fail
   exact hend.out _ _ hI.out
end Go.Proofs.YtaphggjakaghjaaGreatDoor
