/-
  What is proved here: the drawn regions of Place, of the natural width and of the aligning.
-/
import Derived.Test.YtbdpghjegachaaaGreatDoorE2
import Derived.Test.YtbdpghjegachaaaGreatDoorE24
import Derived.Test.YtbdpghjegachaaaGreatDoorE1
namespace Go.Proofs.YtbdpghjegachaaaGreatDoor
open Go.RowKit Go.Shelf
set_option maxRecDepth 100000
set_option maxHeartbeats 1000000

theorem all_h {P : Program} {md : Region.Mode} {ops : Array Oper} {Q : Exit → Act → World → Prop} {S : World → Prop} {fuel : Nat} {listed : Array Bool} {a : Act} {w : World} (is : List Nat) (hr : Region.ready md ops listed = is) (hne : is ≠ [])
  (h : ∀ i ∈ is,∃ oi,ops[i]? = some oi ∧ Region.wanted oi (yielded ops a.tmps) = true ∧ ∀ K : Act → World → Prop,(∀ a' w',S w' → wpAnyH P md ops Q S fuel (listed.setIfInBounds i true) a' w' → K a' w') → oi.wp P a w K Q) : wpAnyH P md ops Q S (fuel + 1) listed a w :=
 wpAnyH_all hr hne fun j hj => by
  obtain ⟨oi,h1,h2,h3⟩ := h j hj
  unfold wpOp
  simp only [h1,h2,if_true]
  exact Or.inl (h3 _ fun a' w' hS h' => ⟨hS,h'⟩)
structure Ln where
 f : Int
 t : Int
 x : Int
 w : Int
 n : Int
 y : Bool
 g : Int
def lnC (l : Ln) : Array Value := #[.int .i64 l.f,.int .i64 l.t,.int .i64 l.x,.int .i64 l.w,.int .i64 l.n,.bool l.y,.int .i64 l.g]
structure LB (W : World) (b : Nat) (l : Ln) : Prop where
 row : W.heap[b]? = some (.cells (lnC l) 29 (0,0))
section
variable {W W' : World} {b : Nat} {l : Ln}
theorem LB.lt (h : LB W b l) : b < W.heap.size := (Array.getElem?_eq_some_iff.1 h.row).1
theorem LB.turns {X : Nat → Prop} (h : LB W b l) (ht : Turns X W W') (hX : ¬ X b) : LB W' b l := ⟨(ht.block b h.lt hX).trans h.row⟩
theorem LB.c0 (h : LB W b l) : W.cell? ⟨b,0,none⟩ = some (.int .i64 l.f) := by rw [Lib.cell_of_heap h.row]; rfl
theorem LB.c1 (h : LB W b l) : W.cell? ⟨b,1,none⟩ = some (.int .i64 l.t) := by rw [Lib.cell_of_heap h.row]; rfl
theorem LB.c2 (h : LB W b l) : W.cell? ⟨b,2,none⟩ = some (.int .i64 l.x) := by rw [Lib.cell_of_heap h.row]; rfl
theorem LB.c3 (h : LB W b l) : W.cell? ⟨b,3,none⟩ = some (.int .i64 l.w) := by rw [Lib.cell_of_heap h.row]; rfl
theorem LB.c5 (h : LB W b l) : W.cell? ⟨b,5,none⟩ = some (.bool l.y) := by rw [Lib.cell_of_heap h.row]; rfl
end
theorem PB.c4 {w : World} {B : Nat} {a : Pa} (h : PB w B a) : w.cell? ⟨B,4,none⟩ = some (.int .i64 a.p.p2) := h.cell rfl
def fr8 (v0 v1 v2 v3 v4 v5 v6 v7 v8 v9 xa xb xc xd xe xf xg xh xi xj xk xl xm xn xo xp xq xr xt xu xv xw xx xy xz xA xB xC xD xE xF xG xH xI xJ xK xL xM xN xO xP xQ xR xS xT xU xV xW xX xY xZ ya yb yc yd ye yf yg yh yi yj yk yl ym yn yo yp yq yr yt yu yv yw yx yy yz yA yB yC yD yE yF yG yH yI yJ yK yL yM yN yO yP yQ yR yS yT yU yV yW yX yY yZ za zb zc zd ze zf zg zh zi zj zk zl zm zn zo zp zq zr zs zt zu zv zw zx zy zz zA : Value) : Act := { tmps := #[v0,v1,v2,v3,v4,v5,v6,v7,v8,v9,xa,xb,xc,xd,xe,xf,xg,xh,xi,xj,xk,xl,xm,xn,xo,xp,xq,xr,xt,xu,xv,xw,xx,xy,xz,xA,xB,xC,xD,xE,xF,xG,xH,xI,xJ,xK,xL,xM,xN,xO,xP,xQ,xR,xS,xT,xU,xV,xW,xX,xY,xZ,ya,yb,yc,yd,ye,yf,yg,yh,yi,yj,yk,yl,ym,yn,yo,yp,yq,yr,yt,yu,yv,yw,yx,yy,yz,yA,yB,yC,yD,yE,yF,yG,yH,yI,yJ,yK,yL,yM,yN,yO,yP,yQ,yR,yS,yT,yU,yV,yW,yX,yY,yZ,za,zb,zc,zd,ze,zf,zg,zh,zi,zj,zk,zl,zm,zn,zo,zp,zq,zr,zs,zt,zu,zv,zw,zx,zy,zz,zA],defers := [] }
def ops8_17_0 (ps : String) : Oper := ⟨some 105,.fieldAddr 29 (.tmp 4) 3,0,ps,#[],none⟩
def ops8_17_1 (ps : String) : Oper := ⟨some 106,.load 3 (.tmp 105),3,ps,#[⟨0,.data⟩],none⟩
def ops8_17_2 (ps : String) : Oper := ⟨some 107,.call ⟨.value (.func 30),#[.tmp 15],#[60]⟩,3,ps,#[],none⟩
def ops8_17_3 (ps : String) : Oper := ⟨some 108,.binOp .sub 3 (.tmp 106) (.tmp 107) 3,3,ps,#[⟨1,.data⟩,⟨2,.data⟩],none⟩
def ops8_17_4 (ps : String) : Oper := ⟨some 109,.fieldAddr 60 (.tmp 15) 4,0,ps,#[⟨0,.phase⟩,⟨1,.phase⟩,⟨2,.phase⟩,⟨3,.phase⟩],none⟩
def ops8_17_5 (ps : String) : Oper := ⟨none,.store 3 (.tmp 109) (.tmp 108),0,ps,#[⟨4,.data⟩,⟨3,.data⟩,⟨2,.chain⟩,⟨0,.phase⟩,⟨1,.phase⟩,⟨2,.phase⟩,⟨3,.phase⟩],none⟩
def ops8_17 (ps : String) : Array Oper := #[ops8_17_0 ps,ops8_17_1 ps,ops8_17_2 ps,ops8_17_3 ps,ops8_17_4 ps,ops8_17_5 ps]

theorem pl_r17 (Q : Exit → Act → World → Prop) (hQ : ∀ c x (n : Nat) v w,Q (.panic c) (x.put (some n) v) w → Q (.panic c) x w) (id : Nat) (ps : String) {v0 v1 v2 v3 v5 v6 v7 v8 v9 xa xb xc xd xe xg xh xi xj xk xl xm xn xo xp xq xr xt xu xv xw xx xy xz xA xB xC xD xE xF xG xH xI xJ xK xL xM xN xO xP xQ xR xS xT xU xV xW xX xY xZ ya yb yc yd ye yf yg yh yi yj yk yl ym yn yo yp yq yr yt yu yv yw yx yy yz yA yB yC yD yE yF yG yH yI yJ yK yL yM yN yO yP yQ yR yS yT yU yV yW yX yY yZ za zb zc zd ze zf zg zh zi zj zk zl zm zn zo zp zq zr zs zt zu zv zw zx zy zz zA : Value} (Lb r : Nat) (l : Ln) (nv : Int) (PP : World → Prop) (w : World) (hS : (fun W => LB W Lb l) (World.drew w))
  (_hne : r ≠ Lb) (hsv : Hid (∀ w1,LB w1 Lb l → LB (w1.setCell ⟨r,4,none⟩ (.int .i64 (l.w - nv))) Lb l)) (b0 : 0 ≤ l.w) (b1 : l.w ≤ 4095) (b2 : -100000000 ≤ nv) (b3 : nv ≤ 100000000)
  (hc : Hid (Calls Tryz.prog 30 #[.pointer (some ⟨r,0,none⟩)] (World.drew w) fun e w' => e = .returned (.int .i64 nv) ∧ PP w' ∧ LB w' Lb l ∧ (∃ u,w'.cell? ⟨r,4,none⟩ = some u) ∧ w'.frozen? ⟨r,4,none⟩ = false))
  (hq : ∀ w',PP w' → Q .normal (fr8 v0 v1 v2 v3 (.pointer (some ⟨Lb,0,none⟩)) v5 v6 v7 v8 v9 xa xb xc xd xe (.pointer (some ⟨r,0,none⟩)) xg xh xi xj xk xl xm xn xo xp xq xr xt xu xv xw xx xy xz xA xB xC xD xE xF xG xH xI xJ xK xL xM xN xO xP xQ xR xS xT xU xV xW xX xY xZ ya yb yc yd ye yf yg yh yi yj yk yl ym yn yo yp yq yr yt yu yv yw yx yy yz yA yB yC yD yE yF yG yH yI yJ yK yL yM yN yO yP yQ yR yS (.pointer (some ⟨Lb,3,none⟩)) (.int .i64 l.w) (.int .i64 nv) (.int .i64 (l.w - nv)) (.pointer (some ⟨r,4,none⟩)) yY yZ za zb zc zd ze zf zg zh zi zj zk zl zm zn zo zp zq zr zs zt zu zv zw zx zy zz zA) (w'.setCell ⟨r,4,none⟩ (.int .i64 (l.w - nv)))) :
  (Code.region id (ops8_17 ps) true).wp Tryz.prog Q (fr8 v0 v1 v2 v3 (.pointer (some ⟨Lb,0,none⟩)) v5 v6 v7 v8 v9 xa xb xc xd xe (.pointer (some ⟨r,0,none⟩)) xg xh xi xj xk xl xm xn xo xp xq xr xt xu xv xw xx xy xz xA xB xC xD xE xF xG xH xI xJ xK xL xM xN xO xP xQ xR xS xT xU xV xW xX xY xZ ya yb yc yd ye yf yg yh yi yj yk yl ym yn yo yp yq yr yt yu yv yw yx yy yz yA yB yC yD yE yF yG yH yI yJ yK yL yM yN yO yP yQ yR yS yT yU yV yW yX yY yZ za zb zc zd ze zf zg zh zi zj zk zl zm zn zo zp zq zr zs zt zu zv zw zx zy zz zA) w := by
 refine wp_region_held (S := (fun W => LB W Lb l)) (by kernel_rfl) ?_
 change wpAnyH _ _ _ _ _ 6 _ _ (World.drew w)
 refine take_r 0 ⟨some 105,.fieldAddr 29 (.tmp 4) 3,0,ps,#[],none⟩ (.pointer (some ⟨Lb,3,none⟩)) hQ (fun w hS => by unfold fr8; go_simp) hS ?_
 refine take_r 1 ⟨some 106,.load 3 (.tmp 105),3,ps,#[⟨0,.data⟩],none⟩ (.int .i64 l.w) hQ (fun w hS => by have e := hS.c3; unfold fr8; go_simp) hS ?_
 refine want_k 2 (ops8_17_2 ps) fun K hK => ?_
 unfold fr8 ops8_17_2
 go_simp
 refine hc.out.mono ?_
 rintro e w1 ⟨rfl,hP,hS1,⟨u4,c4⟩,z4⟩
 replace hS1 : (fun W => LB W Lb l) w1 := hS1
 refine hK _ _ hS1 (cast_h (fr8 v0 v1 v2 v3 (.pointer (some ⟨Lb,0,none⟩)) v5 v6 v7 v8 v9 xa xb xc xd xe (.pointer (some ⟨r,0,none⟩)) xg xh xi xj xk xl xm xn xo xp xq xr xt xu xv xw xx xy xz xA xB xC xD xE xF xG xH xI xJ xK xL xM xN xO xP xQ xR xS xT xU xV xW xX xY xZ ya yb yc yd ye yf yg yh yi yj yk yl ym yn yo yp yq yr yt yu yv yw yx yy yz yA yB yC yD yE yF yG yH yI yJ yK yL yM yN yO yP yQ yR yS (.pointer (some ⟨Lb,3,none⟩)) (.int .i64 l.w) (.int .i64 nv) yW yX yY yZ za zb zc zd ze zf zg zh zi zj zk zl zm zn zo zp zq zr zs zt zu zv zw zx zy zz zA) (by kernel_rfl) ?_)
 clear hK K
 refine take_r 3 ⟨some 108,.binOp .sub 3 (.tmp 106) (.tmp 107) 3,3,ps,#[⟨1,.data⟩,⟨2,.data⟩],none⟩ (.int .i64 (l.w - nv)) hQ (fun w hS => by unfold fr8; go_simp; try exact wrap_i (by omega) (by omega)) hS1 ?_
 refine take_r 4 ⟨some 109,.fieldAddr 60 (.tmp 15) 4,0,ps,#[⟨0,.phase⟩,⟨1,.phase⟩,⟨2,.phase⟩,⟨3,.phase⟩],none⟩ (.pointer (some ⟨r,4,none⟩)) hQ (fun w hS => by unfold fr8; go_simp) hS1 ?_
 refine want_k 5 (ops8_17_5 ps) fun K hK => ?_
 unfold fr8 ops8_17_5
 go_simp
 have hS2 : (fun W => LB W Lb l) (w1.setCell ⟨r,4,none⟩ (.int .i64 (l.w - nv))) := hsv.out w1 hS1
 refine hK _ _ hS2 (cast_h (fr8 v0 v1 v2 v3 (.pointer (some ⟨Lb,0,none⟩)) v5 v6 v7 v8 v9 xa xb xc xd xe (.pointer (some ⟨r,0,none⟩)) xg xh xi xj xk xl xm xn xo xp xq xr xt xu xv xw xx xy xz xA xB xC xD xE xF xG xH xI xJ xK xL xM xN xO xP xQ xR xS xT xU xV xW xX xY xZ ya yb yc yd ye yf yg yh yi yj yk yl ym yn yo yp yq yr yt yu yv yw yx yy yz yA yB yC yD yE yF yG yH yI yJ yK yL yM yN yO yP yQ yR yS (.pointer (some ⟨Lb,3,none⟩)) (.int .i64 l.w) (.int .i64 nv) (.int .i64 (l.w - nv)) (.pointer (some ⟨r,4,none⟩)) yY yZ za zb zc zd ze zf zg zh zi zj zk zl zm zn zo zp zq zr zs zt zu zv zw zx zy zz zA) (by kernel_rfl) ?_)
 clear hK K
 exact wpAnyH_done (by kernel_rfl) (hq _ hP) _
def ops8_18_0 (ps : String) : Oper := ⟨some 110,.fieldAddr 60 (.tmp 15) 2,0,ps,#[],none⟩
def ops8_18_1 (ps : String) : Oper := ⟨some 111,.load 3 (.tmp 110),3,ps,#[⟨0,.data⟩],none⟩
def ops8_18_2 (ps : String) : Oper := ⟨some 112,.call ⟨.value (.func 31),#[],#[]⟩,67,ps,#[],none⟩
def ops8_18_3 (ps : String) : Oper := ⟨some 113,.fieldAddr 27 (.tmp 3) 2,0,ps,#[],none⟩
def ops8_18_4 (ps : String) : Oper := ⟨some 114,.fieldAddr 24 (.tmp 113) 2,0,ps,#[⟨3,.data⟩],none⟩
def ops8_18_5 (ps : String) : Oper := ⟨some 115,.load 3 (.tmp 114),3,ps,#[⟨4,.data⟩],none⟩
def ops8_18_6 (ps : String) : Oper := ⟨some 116,.index 67 (.tmp 112) (.tmp 115),66,ps,#[⟨2,.data⟩,⟨5,.data⟩],none⟩
def ops8_18_7 (ps : String) : Oper := ⟨some 117,.call ⟨.value (.tmp 116),#[.tmp 15],#[69]⟩,3,ps,#[⟨6,.data⟩,⟨2,.chain⟩],none⟩
def ops8_18_8 (ps : String) : Oper := ⟨some 118,.binOp .add 3 (.tmp 111) (.tmp 117) 3,3,ps,#[⟨1,.data⟩,⟨7,.data⟩],none⟩
def ops8_18_9 (ps : String) : Oper := ⟨some 119,.fieldAddr 60 (.tmp 15) 2,0,ps,#[⟨0,.phase⟩,⟨1,.phase⟩,⟨2,.phase⟩,⟨3,.phase⟩,⟨4,.phase⟩,⟨5,.phase⟩,⟨6,.phase⟩,⟨7,.phase⟩,⟨8,.phase⟩],none⟩
def ops8_18_10 (ps : String) : Oper := ⟨none,.store 3 (.tmp 119) (.tmp 118),0,ps,#[⟨9,.data⟩,⟨8,.data⟩,⟨7,.chain⟩,⟨0,.phase⟩,⟨1,.phase⟩,⟨2,.phase⟩,⟨3,.phase⟩,⟨4,.phase⟩,⟨5,.phase⟩,⟨6,.phase⟩,⟨7,.phase⟩,⟨8,.phase⟩],none⟩
def ops8_18 (ps : String) : Array Oper := #[ops8_18_0 ps,ops8_18_1 ps,ops8_18_2 ps,ops8_18_3 ps,ops8_18_4 ps,ops8_18_5 ps,ops8_18_6 ps,ops8_18_7 ps,ops8_18_8 ps,ops8_18_9 ps,ops8_18_10 ps]

theorem pl_r18_127 (Q : Exit → Act → World → Prop) (_hQ : ∀ c x (n : Nat) v w,Q (.panic c) (x.put (some n) v) w → Q (.panic c) x w) (ps : String) {v0 v1 v2 v4 v5 v6 v7 v8 v9 xa xb xc xd xe xg xh xi xj xk xl xm xn xo xp xq xr xt xu xv xw xx xy xz xA xB xC xD xE xF xG xH xI xJ xK xL xM xN xO xP xQ xR xS xT xU xV xW xX xY xZ ya yb yc yd ye yf yg yh yi yj yk yl ym yn yo yp yq yr yt yu yv yw yx yy yz yA yB yC yD yE yF yG yH yI yJ yK yL yM yN yO yP yQ yR yS yT yU yV yW yX zi zj zk zl zm zn zo zp zq zr zs zt zu zv zw zx zy zz zA : Value} (r Pb : Nat) (x mv al : Int) (FV : Value) (P0 P1 PP : World → Prop) (w : World) (hW : PP w)
  (_hidx : Hid (∀ W,(Instr.index 67 (.agg alC) (.int .i64 al)).run Tryz.prog W = .ok FV W)) (_b0 : 0 ≤ x) (_b1 : x ≤ 4095) (_b2 : 0 ≤ mv) (_b3 : mv ≤ 100000000)
  (_h0 : Hid (∀ w,P0 w → w.cell? ⟨r,2,none⟩ = some (.int .i64 x) ∧ w.cell? ⟨Pb,4,none⟩ = some (.int .i64 al))) (_h1 : Hid (∀ w,P1 w → w.cell? ⟨r,2,none⟩ = some (.int .i64 x) ∧ w.cell? ⟨Pb,4,none⟩ = some (.int .i64 al))) (h2 : Hid (∀ w,PP w → w.cell? ⟨r,2,none⟩ = some (.int .i64 x) ∧ w.cell? ⟨Pb,4,none⟩ = some (.int .i64 al) ∧ w.frozen? ⟨r,2,none⟩ = false ∧ (w.setCell ⟨r,2,none⟩ (.int .i64 (x + mv))).cell? ⟨Pb,4,none⟩ = some (.int .i64 al)))
  (_hc1 : Hid (∀ w,P0 w → Calls Tryz.prog 31 #[] w fun e w' => e = .returned (.agg alC) ∧ P1 w'))
  (_hc2 : Hid (∀ (fr : Act) (w : World) (K : Act → World → Prop) (Q : Exit → Act → World → Prop),fr.eval (.tmp 116) = FV → fr.eval (.tmp 15) = .pointer (some ⟨r,0,none⟩) → P1 w → (∀ w',PP w' → K (fr.put (some 117) (.int .i64 mv)) w') → (ops8_18_7 ps).wp Tryz.prog fr w K Q))
  (hq : Hid (∀ w',PP w' → Q .normal (fr8 v0 v1 v2 (.pointer (some ⟨Pb,0,none⟩)) v4 v5 v6 v7 v8 v9 xa xb xc xd xe (.pointer (some ⟨r,0,none⟩)) xg xh xi xj xk xl xm xn xo xp xq xr xt xu xv xw xx xy xz xA xB xC xD xE xF xG xH xI xJ xK xL xM xN xO xP xQ xR xS xT xU xV xW xX xY xZ ya yb yc yd ye yf yg yh yi yj yk yl ym yn yo yp yq yr yt yu yv yw yx yy yz yA yB yC yD yE yF yG yH yI yJ yK yL yM yN yO yP yQ yR yS yT yU yV yW yX (.pointer (some ⟨r,2,none⟩)) (.int .i64 x) (.agg alC) (.pointer (some ⟨Pb,2,none⟩)) (.pointer (some ⟨Pb,4,none⟩)) (.int .i64 al) FV (.int .i64 mv) (.int .i64 (x + mv)) (.pointer (some ⟨r,2,none⟩)) zi zj zk zl zm zn zo zp zq zr zs zt zu zv zw zx zy zz zA) (w'.setCell ⟨r,2,none⟩ (.int .i64 (x + mv))))) :
  wpAnyH Tryz.prog .any (ops8_18 ps) Q (fun W => W.cell? ⟨Pb,4,none⟩ = some (.int .i64 al)) 1 #[true,true,true,true,true,true,true,true,true,true,false] (fr8 v0 v1 v2 (.pointer (some ⟨Pb,0,none⟩)) v4 v5 v6 v7 v8 v9 xa xb xc xd xe (.pointer (some ⟨r,0,none⟩)) xg xh xi xj xk xl xm xn xo xp xq xr xt xu xv xw xx xy xz xA xB xC xD xE xF xG xH xI xJ xK xL xM xN xO xP xQ xR xS xT xU xV xW xX xY xZ ya yb yc yd ye yf yg yh yi yj yk yl ym yn yo yp yq yr yt yu yv yw yx yy yz yA yB yC yD yE yF yG yH yI yJ yK yL yM yN yO yP yQ yR yS yT yU yV yW yX (.pointer (some ⟨r,2,none⟩)) (.int .i64 x) (.agg alC) (.pointer (some ⟨Pb,2,none⟩)) (.pointer (some ⟨Pb,4,none⟩)) (.int .i64 al) FV (.int .i64 mv) (.int .i64 (x + mv)) (.pointer (some ⟨r,2,none⟩)) zi zj zk zl zm zn zo zp zq zr zs zt zu zv zw zx zy zz zA) w := by
 obtain ⟨d2,d4,z2,d5⟩ := h2.out w hW
 refine want_k 10 (ops8_18_10 ps) fun K hK => ?_
 unfold fr8 ops8_18_10
 go_simp
 refine hK _ _ d5 (cast_h (fr8 v0 v1 v2 (.pointer (some ⟨Pb,0,none⟩)) v4 v5 v6 v7 v8 v9 xa xb xc xd xe (.pointer (some ⟨r,0,none⟩)) xg xh xi xj xk xl xm xn xo xp xq xr xt xu xv xw xx xy xz xA xB xC xD xE xF xG xH xI xJ xK xL xM xN xO xP xQ xR xS xT xU xV xW xX xY xZ ya yb yc yd ye yf yg yh yi yj yk yl ym yn yo yp yq yr yt yu yv yw yx yy yz yA yB yC yD yE yF yG yH yI yJ yK yL yM yN yO yP yQ yR yS yT yU yV yW yX (.pointer (some ⟨r,2,none⟩)) (.int .i64 x) (.agg alC) (.pointer (some ⟨Pb,2,none⟩)) (.pointer (some ⟨Pb,4,none⟩)) (.int .i64 al) FV (.int .i64 mv) (.int .i64 (x + mv)) (.pointer (some ⟨r,2,none⟩)) zi zj zk zl zm zn zo zp zq zr zs zt zu zv zw zx zy zz zA) (by kernel_rfl) ?_)
 clear hK K
 exact wpAnyH_done (by kernel_rfl) (hq.out _ hW) _

theorem pl_r18_12 (Q : Exit → Act → World → Prop) (hQ : ∀ c x (n : Nat) v w,Q (.panic c) (x.put (some n) v) w → Q (.panic c) x w) (ps : String) {v0 v1 v2 v4 v5 v6 v7 v8 v9 xa xb xc xd xe xg xh xi xj xk xl xm xn xo xp xq xr xt xu xv xw xx xy xz xA xB xC xD xE xF xG xH xI xJ xK xL xM xN xO xP xQ xR xS xT xU xV xW xX xY xZ ya yb yc yd ye yf yg yh yi yj yk yl ym yn yo yp yq yr yt yu yv yw yx yy yz yA yB yC yD yE yF yG yH yI yJ yK yL yM yN yO yP yQ yR yS yT yU yV yW yX zf zg zh zi zj zk zl zm zn zo zp zq zr zs zt zu zv zw zx zy zz zA : Value} (r Pb : Nat) (x mv al : Int) (FV : Value) (P0 P1 PP : World → Prop) (w : World) (hW : P1 w)
  (hidx : Hid (∀ W,(Instr.index 67 (.agg alC) (.int .i64 al)).run Tryz.prog W = .ok FV W)) (b0 : 0 ≤ x) (b1 : x ≤ 4095) (b2 : 0 ≤ mv) (b3 : mv ≤ 100000000)
  (h0 : Hid (∀ w,P0 w → w.cell? ⟨r,2,none⟩ = some (.int .i64 x) ∧ w.cell? ⟨Pb,4,none⟩ = some (.int .i64 al))) (h1 : Hid (∀ w,P1 w → w.cell? ⟨r,2,none⟩ = some (.int .i64 x) ∧ w.cell? ⟨Pb,4,none⟩ = some (.int .i64 al))) (h2 : Hid (∀ w,PP w → w.cell? ⟨r,2,none⟩ = some (.int .i64 x) ∧ w.cell? ⟨Pb,4,none⟩ = some (.int .i64 al) ∧ w.frozen? ⟨r,2,none⟩ = false ∧ (w.setCell ⟨r,2,none⟩ (.int .i64 (x + mv))).cell? ⟨Pb,4,none⟩ = some (.int .i64 al)))
  (hc1 : Hid (∀ w,P0 w → Calls Tryz.prog 31 #[] w fun e w' => e = .returned (.agg alC) ∧ P1 w'))
  (hc2 : Hid (∀ (fr : Act) (w : World) (K : Act → World → Prop) (Q : Exit → Act → World → Prop),fr.eval (.tmp 116) = FV → fr.eval (.tmp 15) = .pointer (some ⟨r,0,none⟩) → P1 w → (∀ w',PP w' → K (fr.put (some 117) (.int .i64 mv)) w') → (ops8_18_7 ps).wp Tryz.prog fr w K Q))
  (hq : Hid (∀ w',PP w' → Q .normal (fr8 v0 v1 v2 (.pointer (some ⟨Pb,0,none⟩)) v4 v5 v6 v7 v8 v9 xa xb xc xd xe (.pointer (some ⟨r,0,none⟩)) xg xh xi xj xk xl xm xn xo xp xq xr xt xu xv xw xx xy xz xA xB xC xD xE xF xG xH xI xJ xK xL xM xN xO xP xQ xR xS xT xU xV xW xX xY xZ ya yb yc yd ye yf yg yh yi yj yk yl ym yn yo yp yq yr yt yu yv yw yx yy yz yA yB yC yD yE yF yG yH yI yJ yK yL yM yN yO yP yQ yR yS yT yU yV yW yX (.pointer (some ⟨r,2,none⟩)) (.int .i64 x) (.agg alC) (.pointer (some ⟨Pb,2,none⟩)) (.pointer (some ⟨Pb,4,none⟩)) (.int .i64 al) FV (.int .i64 mv) (.int .i64 (x + mv)) (.pointer (some ⟨r,2,none⟩)) zi zj zk zl zm zn zo zp zq zr zs zt zu zv zw zx zy zz zA) (w'.setCell ⟨r,2,none⟩ (.int .i64 (x + mv))))) :
  wpAnyH Tryz.prog .any (ops8_18 ps) Q (fun W => W.cell? ⟨Pb,4,none⟩ = some (.int .i64 al)) 4 #[true,true,true,true,true,true,true,false,false,false,false] (fr8 v0 v1 v2 (.pointer (some ⟨Pb,0,none⟩)) v4 v5 v6 v7 v8 v9 xa xb xc xd xe (.pointer (some ⟨r,0,none⟩)) xg xh xi xj xk xl xm xn xo xp xq xr xt xu xv xw xx xy xz xA xB xC xD xE xF xG xH xI xJ xK xL xM xN xO xP xQ xR xS xT xU xV xW xX xY xZ ya yb yc yd ye yf yg yh yi yj yk yl ym yn yo yp yq yr yt yu yv yw yx yy yz yA yB yC yD yE yF yG yH yI yJ yK yL yM yN yO yP yQ yR yS yT yU yV yW yX (.pointer (some ⟨r,2,none⟩)) (.int .i64 x) (.agg alC) (.pointer (some ⟨Pb,2,none⟩)) (.pointer (some ⟨Pb,4,none⟩)) (.int .i64 al) FV zf zg zh zi zj zk zl zm zn zo zp zq zr zs zt zu zv zw zx zy zz zA) w := by
 refine all_h (fuel := 3) [7] (by kernel_rfl) (by simp) ?_
 intro i hi
 simp only [List.mem_cons,List.not_mem_nil,or_false] at hi
 subst hi
 ·refine ⟨ops8_18_7 ps,by kernel_rfl,by kernel_rfl,fun K hK => ?_⟩
  refine hc2.out _ w K _ (by unfold fr8; rfl) (by unfold fr8; rfl) hW ?_
  intro w1 hW1
  have hS1 : (fun W => W.cell? ⟨Pb,4,none⟩ = some (.int .i64 al)) w1 := (h2.out w1 hW1).2.1
  refine hK _ _ hS1 (cast_h (fr8 v0 v1 v2 (.pointer (some ⟨Pb,0,none⟩)) v4 v5 v6 v7 v8 v9 xa xb xc xd xe (.pointer (some ⟨r,0,none⟩)) xg xh xi xj xk xl xm xn xo xp xq xr xt xu xv xw xx xy xz xA xB xC xD xE xF xG xH xI xJ xK xL xM xN xO xP xQ xR xS xT xU xV xW xX xY xZ ya yb yc yd ye yf yg yh yi yj yk yl ym yn yo yp yq yr yt yu yv yw yx yy yz yA yB yC yD yE yF yG yH yI yJ yK yL yM yN yO yP yQ yR yS yT yU yV yW yX (.pointer (some ⟨r,2,none⟩)) (.int .i64 x) (.agg alC) (.pointer (some ⟨Pb,2,none⟩)) (.pointer (some ⟨Pb,4,none⟩)) (.int .i64 al) FV (.int .i64 mv) zg zh zi zj zk zl zm zn zo zp zq zr zs zt zu zv zw zx zy zz zA) (by kernel_rfl) ?_)
  clear hK K
  refine take_r 8 ⟨some 118,.binOp .add 3 (.tmp 111) (.tmp 117) 3,3,ps,#[⟨1,.data⟩,⟨7,.data⟩],none⟩ (.int .i64 (x + mv)) hQ (fun w hS => by unfold fr8; go_simp; try exact wrap_i (by omega) (by omega)) hS1 ?_
  refine take_r 9 ⟨some 119,.fieldAddr 60 (.tmp 15) 2,0,ps,#[⟨0,.phase⟩,⟨1,.phase⟩,⟨2,.phase⟩,⟨3,.phase⟩,⟨4,.phase⟩,⟨5,.phase⟩,⟨6,.phase⟩,⟨7,.phase⟩,⟨8,.phase⟩],none⟩ (.pointer (some ⟨r,2,none⟩)) hQ (fun w hS => by unfold fr8; go_simp) hS1 ?_
  exact pl_r18_127 Q hQ ps r Pb x mv al FV P0 P1 PP w1 hW1 hidx b0 b1 b2 b3 h0 h1 h2 hc1 hc2 hq

theorem pl_r18_1 (Q : Exit → Act → World → Prop) (hQ : ∀ c x (n : Nat) v w,Q (.panic c) (x.put (some n) v) w → Q (.panic c) x w) (ps : String) {v0 v1 v2 v4 v5 v6 v7 v8 v9 xa xb xc xd xe xg xh xi xj xk xl xm xn xo xp xq xr xt xu xv xw xx xy xz xA xB xC xD xE xF xG xH xI xJ xK xL xM xN xO xP xQ xR xS xT xU xV xW xX xY xZ ya yb yc yd ye yf yg yh yi yj yk yl ym yn yo yp yq yr yt yu yv yw yx yy yz yA yB yC yD yE yF yG yH yI yJ yK yL yM yN yO yP yQ yR yS yT yU yV yW yX za ze zf zg zh zi zj zk zl zm zn zo zp zq zr zs zt zu zv zw zx zy zz zA : Value} (r Pb : Nat) (x mv al : Int) (FV : Value) (P0 P1 PP : World → Prop) (w : World) (hW : P0 w)
  (hidx : Hid (∀ W,(Instr.index 67 (.agg alC) (.int .i64 al)).run Tryz.prog W = .ok FV W)) (b0 : 0 ≤ x) (b1 : x ≤ 4095) (b2 : 0 ≤ mv) (b3 : mv ≤ 100000000)
  (h0 : Hid (∀ w,P0 w → w.cell? ⟨r,2,none⟩ = some (.int .i64 x) ∧ w.cell? ⟨Pb,4,none⟩ = some (.int .i64 al))) (h1 : Hid (∀ w,P1 w → w.cell? ⟨r,2,none⟩ = some (.int .i64 x) ∧ w.cell? ⟨Pb,4,none⟩ = some (.int .i64 al))) (h2 : Hid (∀ w,PP w → w.cell? ⟨r,2,none⟩ = some (.int .i64 x) ∧ w.cell? ⟨Pb,4,none⟩ = some (.int .i64 al) ∧ w.frozen? ⟨r,2,none⟩ = false ∧ (w.setCell ⟨r,2,none⟩ (.int .i64 (x + mv))).cell? ⟨Pb,4,none⟩ = some (.int .i64 al)))
  (hc1 : Hid (∀ w,P0 w → Calls Tryz.prog 31 #[] w fun e w' => e = .returned (.agg alC) ∧ P1 w'))
  (hc2 : Hid (∀ (fr : Act) (w : World) (K : Act → World → Prop) (Q : Exit → Act → World → Prop),fr.eval (.tmp 116) = FV → fr.eval (.tmp 15) = .pointer (some ⟨r,0,none⟩) → P1 w → (∀ w',PP w' → K (fr.put (some 117) (.int .i64 mv)) w') → (ops8_18_7 ps).wp Tryz.prog fr w K Q))
  (hq : Hid (∀ w',PP w' → Q .normal (fr8 v0 v1 v2 (.pointer (some ⟨Pb,0,none⟩)) v4 v5 v6 v7 v8 v9 xa xb xc xd xe (.pointer (some ⟨r,0,none⟩)) xg xh xi xj xk xl xm xn xo xp xq xr xt xu xv xw xx xy xz xA xB xC xD xE xF xG xH xI xJ xK xL xM xN xO xP xQ xR xS xT xU xV xW xX xY xZ ya yb yc yd ye yf yg yh yi yj yk yl ym yn yo yp yq yr yt yu yv yw yx yy yz yA yB yC yD yE yF yG yH yI yJ yK yL yM yN yO yP yQ yR yS yT yU yV yW yX (.pointer (some ⟨r,2,none⟩)) (.int .i64 x) (.agg alC) (.pointer (some ⟨Pb,2,none⟩)) (.pointer (some ⟨Pb,4,none⟩)) (.int .i64 al) FV (.int .i64 mv) (.int .i64 (x + mv)) (.pointer (some ⟨r,2,none⟩)) zi zj zk zl zm zn zo zp zq zr zs zt zu zv zw zx zy zz zA) (w'.setCell ⟨r,2,none⟩ (.int .i64 (x + mv))))) :
  wpAnyH Tryz.prog .any (ops8_18 ps) Q (fun W => W.cell? ⟨Pb,4,none⟩ = some (.int .i64 al)) 6 #[true,true,false,true,true,true,false,false,false,false,false] (fr8 v0 v1 v2 (.pointer (some ⟨Pb,0,none⟩)) v4 v5 v6 v7 v8 v9 xa xb xc xd xe (.pointer (some ⟨r,0,none⟩)) xg xh xi xj xk xl xm xn xo xp xq xr xt xu xv xw xx xy xz xA xB xC xD xE xF xG xH xI xJ xK xL xM xN xO xP xQ xR xS xT xU xV xW xX xY xZ ya yb yc yd ye yf yg yh yi yj yk yl ym yn yo yp yq yr yt yu yv yw yx yy yz yA yB yC yD yE yF yG yH yI yJ yK yL yM yN yO yP yQ yR yS yT yU yV yW yX (.pointer (some ⟨r,2,none⟩)) (.int .i64 x) za (.pointer (some ⟨Pb,2,none⟩)) (.pointer (some ⟨Pb,4,none⟩)) (.int .i64 al) ze zf zg zh zi zj zk zl zm zn zo zp zq zr zs zt zu zv zw zx zy zz zA) w := by
 refine all_h (fuel := 5) [2] (by kernel_rfl) (by simp) ?_
 intro i hi
 simp only [List.mem_cons,List.not_mem_nil,or_false] at hi
 subst hi
 ·refine ⟨ops8_18_2 ps,by kernel_rfl,by kernel_rfl,fun K hK => ?_⟩
  unfold fr8 ops8_18_2
  go_simp
  refine (hc1.out w hW).mono ?_
  rintro e w1 ⟨rfl,hW1⟩
  have hS1 : (fun W => W.cell? ⟨Pb,4,none⟩ = some (.int .i64 al)) w1 := (h1.out w1 hW1).2
  refine hK _ _ hS1 (cast_h (fr8 v0 v1 v2 (.pointer (some ⟨Pb,0,none⟩)) v4 v5 v6 v7 v8 v9 xa xb xc xd xe (.pointer (some ⟨r,0,none⟩)) xg xh xi xj xk xl xm xn xo xp xq xr xt xu xv xw xx xy xz xA xB xC xD xE xF xG xH xI xJ xK xL xM xN xO xP xQ xR xS xT xU xV xW xX xY xZ ya yb yc yd ye yf yg yh yi yj yk yl ym yn yo yp yq yr yt yu yv yw yx yy yz yA yB yC yD yE yF yG yH yI yJ yK yL yM yN yO yP yQ yR yS yT yU yV yW yX (.pointer (some ⟨r,2,none⟩)) (.int .i64 x) (.agg alC) (.pointer (some ⟨Pb,2,none⟩)) (.pointer (some ⟨Pb,4,none⟩)) (.int .i64 al) ze zf zg zh zi zj zk zl zm zn zo zp zq zr zs zt zu zv zw zx zy zz zA) (by kernel_rfl) ?_)
  clear hK K
  refine take_r 6 ⟨some 116,.index 67 (.tmp 112) (.tmp 115),66,ps,#[⟨2,.data⟩,⟨5,.data⟩],none⟩ FV hQ (fun w hS => by have e := hidx.out w; unfold fr8; go_simp) hS1 ?_
  exact pl_r18_12 Q hQ ps r Pb x mv al FV P0 P1 PP w1 hW1 hidx b0 b1 b2 b3 h0 h1 h2 hc1 hc2 hq

theorem pl_r18_27 (Q : Exit → Act → World → Prop) (hQ : ∀ c x (n : Nat) v w,Q (.panic c) (x.put (some n) v) w → Q (.panic c) x w) (ps : String) {v0 v1 v2 v4 v5 v6 v7 v8 v9 xa xb xc xd xe xg xh xi xj xk xl xm xn xo xp xq xr xt xu xv xw xx xy xz xA xB xC xD xE xF xG xH xI xJ xK xL xM xN xO xP xQ xR xS xT xU xV xW xX xY xZ ya yb yc yd ye yf yg yh yi yj yk yl ym yn yo yp yq yr yt yu yv yw yx yy yz yA yB yC yD yE yF yG yH yI yJ yK yL yM yN yO yP yQ yR yS yT yU yV yW yX yZ zg zh zi zj zk zl zm zn zo zp zq zr zs zt zu zv zw zx zy zz zA : Value} (r Pb : Nat) (x mv al : Int) (FV : Value) (P0 P1 PP : World → Prop) (w : World) (hW : PP w)
  (hidx : Hid (∀ W,(Instr.index 67 (.agg alC) (.int .i64 al)).run Tryz.prog W = .ok FV W)) (b0 : 0 ≤ x) (b1 : x ≤ 4095) (b2 : 0 ≤ mv) (b3 : mv ≤ 100000000)
  (h0 : Hid (∀ w,P0 w → w.cell? ⟨r,2,none⟩ = some (.int .i64 x) ∧ w.cell? ⟨Pb,4,none⟩ = some (.int .i64 al))) (h1 : Hid (∀ w,P1 w → w.cell? ⟨r,2,none⟩ = some (.int .i64 x) ∧ w.cell? ⟨Pb,4,none⟩ = some (.int .i64 al))) (h2 : Hid (∀ w,PP w → w.cell? ⟨r,2,none⟩ = some (.int .i64 x) ∧ w.cell? ⟨Pb,4,none⟩ = some (.int .i64 al) ∧ w.frozen? ⟨r,2,none⟩ = false ∧ (w.setCell ⟨r,2,none⟩ (.int .i64 (x + mv))).cell? ⟨Pb,4,none⟩ = some (.int .i64 al)))
  (hc1 : Hid (∀ w,P0 w → Calls Tryz.prog 31 #[] w fun e w' => e = .returned (.agg alC) ∧ P1 w'))
  (hc2 : Hid (∀ (fr : Act) (w : World) (K : Act → World → Prop) (Q : Exit → Act → World → Prop),fr.eval (.tmp 116) = FV → fr.eval (.tmp 15) = .pointer (some ⟨r,0,none⟩) → P1 w → (∀ w',PP w' → K (fr.put (some 117) (.int .i64 mv)) w') → (ops8_18_7 ps).wp Tryz.prog fr w K Q))
  (hq : Hid (∀ w',PP w' → Q .normal (fr8 v0 v1 v2 (.pointer (some ⟨Pb,0,none⟩)) v4 v5 v6 v7 v8 v9 xa xb xc xd xe (.pointer (some ⟨r,0,none⟩)) xg xh xi xj xk xl xm xn xo xp xq xr xt xu xv xw xx xy xz xA xB xC xD xE xF xG xH xI xJ xK xL xM xN xO xP xQ xR xS xT xU xV xW xX xY xZ ya yb yc yd ye yf yg yh yi yj yk yl ym yn yo yp yq yr yt yu yv yw yx yy yz yA yB yC yD yE yF yG yH yI yJ yK yL yM yN yO yP yQ yR yS yT yU yV yW yX (.pointer (some ⟨r,2,none⟩)) (.int .i64 x) (.agg alC) (.pointer (some ⟨Pb,2,none⟩)) (.pointer (some ⟨Pb,4,none⟩)) (.int .i64 al) FV (.int .i64 mv) (.int .i64 (x + mv)) (.pointer (some ⟨r,2,none⟩)) zi zj zk zl zm zn zo zp zq zr zs zt zu zv zw zx zy zz zA) (w'.setCell ⟨r,2,none⟩ (.int .i64 (x + mv))))) :
  wpAnyH Tryz.prog .any (ops8_18 ps) Q (fun W => W.cell? ⟨Pb,4,none⟩ = some (.int .i64 al)) 4 #[true,false,true,true,true,true,true,true,false,false,false] (fr8 v0 v1 v2 (.pointer (some ⟨Pb,0,none⟩)) v4 v5 v6 v7 v8 v9 xa xb xc xd xe (.pointer (some ⟨r,0,none⟩)) xg xh xi xj xk xl xm xn xo xp xq xr xt xu xv xw xx xy xz xA xB xC xD xE xF xG xH xI xJ xK xL xM xN xO xP xQ xR xS xT xU xV xW xX xY xZ ya yb yc yd ye yf yg yh yi yj yk yl ym yn yo yp yq yr yt yu yv yw yx yy yz yA yB yC yD yE yF yG yH yI yJ yK yL yM yN yO yP yQ yR yS yT yU yV yW yX (.pointer (some ⟨r,2,none⟩)) yZ (.agg alC) (.pointer (some ⟨Pb,2,none⟩)) (.pointer (some ⟨Pb,4,none⟩)) (.int .i64 al) FV (.int .i64 mv) zg zh zi zj zk zl zm zn zo zp zq zr zs zt zu zv zw zx zy zz zA) w := by
 refine all_h (fuel := 3) [1] (by kernel_rfl) (by simp) ?_
 intro i hi
 simp only [List.mem_cons,List.not_mem_nil,or_false] at hi
 subst hi
 ·refine ⟨ops8_18_1 ps,by kernel_rfl,by kernel_rfl,fun K hK => ?_⟩
  have d2 := (h2.out w hW).1
  have hS1 : (fun W => W.cell? ⟨Pb,4,none⟩ = some (.int .i64 al)) w := (h2.out w hW).2.1
  unfold fr8 ops8_18_1
  go_simp
  refine hK _ _ hS1 (cast_h (fr8 v0 v1 v2 (.pointer (some ⟨Pb,0,none⟩)) v4 v5 v6 v7 v8 v9 xa xb xc xd xe (.pointer (some ⟨r,0,none⟩)) xg xh xi xj xk xl xm xn xo xp xq xr xt xu xv xw xx xy xz xA xB xC xD xE xF xG xH xI xJ xK xL xM xN xO xP xQ xR xS xT xU xV xW xX xY xZ ya yb yc yd ye yf yg yh yi yj yk yl ym yn yo yp yq yr yt yu yv yw yx yy yz yA yB yC yD yE yF yG yH yI yJ yK yL yM yN yO yP yQ yR yS yT yU yV yW yX (.pointer (some ⟨r,2,none⟩)) (.int .i64 x) (.agg alC) (.pointer (some ⟨Pb,2,none⟩)) (.pointer (some ⟨Pb,4,none⟩)) (.int .i64 al) FV (.int .i64 mv) zg zh zi zj zk zl zm zn zo zp zq zr zs zt zu zv zw zx zy zz zA) (by kernel_rfl) ?_)
  clear hK K
  refine take_r 8 ⟨some 118,.binOp .add 3 (.tmp 111) (.tmp 117) 3,3,ps,#[⟨1,.data⟩,⟨7,.data⟩],none⟩ (.int .i64 (x + mv)) hQ (fun w hS => by unfold fr8; go_simp; try exact wrap_i (by omega) (by omega)) hS1 ?_
  refine take_r 9 ⟨some 119,.fieldAddr 60 (.tmp 15) 2,0,ps,#[⟨0,.phase⟩,⟨1,.phase⟩,⟨2,.phase⟩,⟨3,.phase⟩,⟨4,.phase⟩,⟨5,.phase⟩,⟨6,.phase⟩,⟨7,.phase⟩,⟨8,.phase⟩],none⟩ (.pointer (some ⟨r,2,none⟩)) hQ (fun w hS => by unfold fr8; go_simp) hS1 ?_
  exact pl_r18_127 Q hQ ps r Pb x mv al FV P0 P1 PP w hW hidx b0 b1 b2 b3 h0 h1 h2 hc1 hc2 hq

theorem pl_r18_2 (Q : Exit → Act → World → Prop) (hQ : ∀ c x (n : Nat) v w,Q (.panic c) (x.put (some n) v) w → Q (.panic c) x w) (ps : String) {v0 v1 v2 v4 v5 v6 v7 v8 v9 xa xb xc xd xe xg xh xi xj xk xl xm xn xo xp xq xr xt xu xv xw xx xy xz xA xB xC xD xE xF xG xH xI xJ xK xL xM xN xO xP xQ xR xS xT xU xV xW xX xY xZ ya yb yc yd ye yf yg yh yi yj yk yl ym yn yo yp yq yr yt yu yv yw yx yy yz yA yB yC yD yE yF yG yH yI yJ yK yL yM yN yO yP yQ yR yS yT yU yV yW yX yZ zf zg zh zi zj zk zl zm zn zo zp zq zr zs zt zu zv zw zx zy zz zA : Value} (r Pb : Nat) (x mv al : Int) (FV : Value) (P0 P1 PP : World → Prop) (w : World) (hW : P1 w)
  (hidx : Hid (∀ W,(Instr.index 67 (.agg alC) (.int .i64 al)).run Tryz.prog W = .ok FV W)) (b0 : 0 ≤ x) (b1 : x ≤ 4095) (b2 : 0 ≤ mv) (b3 : mv ≤ 100000000)
  (h0 : Hid (∀ w,P0 w → w.cell? ⟨r,2,none⟩ = some (.int .i64 x) ∧ w.cell? ⟨Pb,4,none⟩ = some (.int .i64 al))) (h1 : Hid (∀ w,P1 w → w.cell? ⟨r,2,none⟩ = some (.int .i64 x) ∧ w.cell? ⟨Pb,4,none⟩ = some (.int .i64 al))) (h2 : Hid (∀ w,PP w → w.cell? ⟨r,2,none⟩ = some (.int .i64 x) ∧ w.cell? ⟨Pb,4,none⟩ = some (.int .i64 al) ∧ w.frozen? ⟨r,2,none⟩ = false ∧ (w.setCell ⟨r,2,none⟩ (.int .i64 (x + mv))).cell? ⟨Pb,4,none⟩ = some (.int .i64 al)))
  (hc1 : Hid (∀ w,P0 w → Calls Tryz.prog 31 #[] w fun e w' => e = .returned (.agg alC) ∧ P1 w'))
  (hc2 : Hid (∀ (fr : Act) (w : World) (K : Act → World → Prop) (Q : Exit → Act → World → Prop),fr.eval (.tmp 116) = FV → fr.eval (.tmp 15) = .pointer (some ⟨r,0,none⟩) → P1 w → (∀ w',PP w' → K (fr.put (some 117) (.int .i64 mv)) w') → (ops8_18_7 ps).wp Tryz.prog fr w K Q))
  (hq : Hid (∀ w',PP w' → Q .normal (fr8 v0 v1 v2 (.pointer (some ⟨Pb,0,none⟩)) v4 v5 v6 v7 v8 v9 xa xb xc xd xe (.pointer (some ⟨r,0,none⟩)) xg xh xi xj xk xl xm xn xo xp xq xr xt xu xv xw xx xy xz xA xB xC xD xE xF xG xH xI xJ xK xL xM xN xO xP xQ xR xS xT xU xV xW xX xY xZ ya yb yc yd ye yf yg yh yi yj yk yl ym yn yo yp yq yr yt yu yv yw yx yy yz yA yB yC yD yE yF yG yH yI yJ yK yL yM yN yO yP yQ yR yS yT yU yV yW yX (.pointer (some ⟨r,2,none⟩)) (.int .i64 x) (.agg alC) (.pointer (some ⟨Pb,2,none⟩)) (.pointer (some ⟨Pb,4,none⟩)) (.int .i64 al) FV (.int .i64 mv) (.int .i64 (x + mv)) (.pointer (some ⟨r,2,none⟩)) zi zj zk zl zm zn zo zp zq zr zs zt zu zv zw zx zy zz zA) (w'.setCell ⟨r,2,none⟩ (.int .i64 (x + mv))))) :
  wpAnyH Tryz.prog .any (ops8_18 ps) Q (fun W => W.cell? ⟨Pb,4,none⟩ = some (.int .i64 al)) 5 #[true,false,true,true,true,true,true,false,false,false,false] (fr8 v0 v1 v2 (.pointer (some ⟨Pb,0,none⟩)) v4 v5 v6 v7 v8 v9 xa xb xc xd xe (.pointer (some ⟨r,0,none⟩)) xg xh xi xj xk xl xm xn xo xp xq xr xt xu xv xw xx xy xz xA xB xC xD xE xF xG xH xI xJ xK xL xM xN xO xP xQ xR xS xT xU xV xW xX xY xZ ya yb yc yd ye yf yg yh yi yj yk yl ym yn yo yp yq yr yt yu yv yw yx yy yz yA yB yC yD yE yF yG yH yI yJ yK yL yM yN yO yP yQ yR yS yT yU yV yW yX (.pointer (some ⟨r,2,none⟩)) yZ (.agg alC) (.pointer (some ⟨Pb,2,none⟩)) (.pointer (some ⟨Pb,4,none⟩)) (.int .i64 al) FV zf zg zh zi zj zk zl zm zn zo zp zq zr zs zt zu zv zw zx zy zz zA) w := by
 refine all_h (fuel := 4) [1,7] (by kernel_rfl) (by simp) ?_
 intro i hi
 simp only [List.mem_cons,List.not_mem_nil,or_false] at hi
 rcases hi with rfl | rfl
 ·refine ⟨ops8_18_1 ps,by kernel_rfl,by kernel_rfl,fun K hK => ?_⟩
  have d2 := (h1.out w hW).1
  have hS1 : (fun W => W.cell? ⟨Pb,4,none⟩ = some (.int .i64 al)) w := (h1.out w hW).2
  unfold fr8 ops8_18_1
  go_simp
  refine hK _ _ hS1 (cast_h (fr8 v0 v1 v2 (.pointer (some ⟨Pb,0,none⟩)) v4 v5 v6 v7 v8 v9 xa xb xc xd xe (.pointer (some ⟨r,0,none⟩)) xg xh xi xj xk xl xm xn xo xp xq xr xt xu xv xw xx xy xz xA xB xC xD xE xF xG xH xI xJ xK xL xM xN xO xP xQ xR xS xT xU xV xW xX xY xZ ya yb yc yd ye yf yg yh yi yj yk yl ym yn yo yp yq yr yt yu yv yw yx yy yz yA yB yC yD yE yF yG yH yI yJ yK yL yM yN yO yP yQ yR yS yT yU yV yW yX (.pointer (some ⟨r,2,none⟩)) (.int .i64 x) (.agg alC) (.pointer (some ⟨Pb,2,none⟩)) (.pointer (some ⟨Pb,4,none⟩)) (.int .i64 al) FV zf zg zh zi zj zk zl zm zn zo zp zq zr zs zt zu zv zw zx zy zz zA) (by kernel_rfl) ?_)
  clear hK K
  exact pl_r18_12 Q hQ ps r Pb x mv al FV P0 P1 PP w hW hidx b0 b1 b2 b3 h0 h1 h2 hc1 hc2 hq
 ·refine ⟨ops8_18_7 ps,by kernel_rfl,by kernel_rfl,fun K hK => ?_⟩
  refine hc2.out _ w K _ (by unfold fr8; rfl) (by unfold fr8; rfl) hW ?_
  intro w1 hW1
  have hS1 : (fun W => W.cell? ⟨Pb,4,none⟩ = some (.int .i64 al)) w1 := (h2.out w1 hW1).2.1
  refine hK _ _ hS1 (cast_h (fr8 v0 v1 v2 (.pointer (some ⟨Pb,0,none⟩)) v4 v5 v6 v7 v8 v9 xa xb xc xd xe (.pointer (some ⟨r,0,none⟩)) xg xh xi xj xk xl xm xn xo xp xq xr xt xu xv xw xx xy xz xA xB xC xD xE xF xG xH xI xJ xK xL xM xN xO xP xQ xR xS xT xU xV xW xX xY xZ ya yb yc yd ye yf yg yh yi yj yk yl ym yn yo yp yq yr yt yu yv yw yx yy yz yA yB yC yD yE yF yG yH yI yJ yK yL yM yN yO yP yQ yR yS yT yU yV yW yX (.pointer (some ⟨r,2,none⟩)) yZ (.agg alC) (.pointer (some ⟨Pb,2,none⟩)) (.pointer (some ⟨Pb,4,none⟩)) (.int .i64 al) FV (.int .i64 mv) zg zh zi zj zk zl zm zn zo zp zq zr zs zt zu zv zw zx zy zz zA) (by kernel_rfl) ?_)
  clear hK K
  exact pl_r18_27 Q hQ ps r Pb x mv al FV P0 P1 PP w1 hW1 hidx b0 b1 b2 b3 h0 h1 h2 hc1 hc2 hq

theorem pl_r18_n (Q : Exit → Act → World → Prop) (hQ : ∀ c x (n : Nat) v w,Q (.panic c) (x.put (some n) v) w → Q (.panic c) x w) (ps : String) {v0 v1 v2 v4 v5 v6 v7 v8 v9 xa xb xc xd xe xg xh xi xj xk xl xm xn xo xp xq xr xt xu xv xw xx xy xz xA xB xC xD xE xF xG xH xI xJ xK xL xM xN xO xP xQ xR xS xT xU xV xW xX xY xZ ya yb yc yd ye yf yg yh yi yj yk yl ym yn yo yp yq yr yt yu yv yw yx yy yz yA yB yC yD yE yF yG yH yI yJ yK yL yM yN yO yP yQ yR yS yT yU yV yW yX yZ za ze zf zg zh zi zj zk zl zm zn zo zp zq zr zs zt zu zv zw zx zy zz zA : Value} (r Pb : Nat) (x mv al : Int) (FV : Value) (P0 P1 PP : World → Prop) (w : World) (hW : P0 w)
  (hidx : Hid (∀ W,(Instr.index 67 (.agg alC) (.int .i64 al)).run Tryz.prog W = .ok FV W)) (b0 : 0 ≤ x) (b1 : x ≤ 4095) (b2 : 0 ≤ mv) (b3 : mv ≤ 100000000)
  (h0 : Hid (∀ w,P0 w → w.cell? ⟨r,2,none⟩ = some (.int .i64 x) ∧ w.cell? ⟨Pb,4,none⟩ = some (.int .i64 al))) (h1 : Hid (∀ w,P1 w → w.cell? ⟨r,2,none⟩ = some (.int .i64 x) ∧ w.cell? ⟨Pb,4,none⟩ = some (.int .i64 al))) (h2 : Hid (∀ w,PP w → w.cell? ⟨r,2,none⟩ = some (.int .i64 x) ∧ w.cell? ⟨Pb,4,none⟩ = some (.int .i64 al) ∧ w.frozen? ⟨r,2,none⟩ = false ∧ (w.setCell ⟨r,2,none⟩ (.int .i64 (x + mv))).cell? ⟨Pb,4,none⟩ = some (.int .i64 al)))
  (hc1 : Hid (∀ w,P0 w → Calls Tryz.prog 31 #[] w fun e w' => e = .returned (.agg alC) ∧ P1 w'))
  (hc2 : Hid (∀ (fr : Act) (w : World) (K : Act → World → Prop) (Q : Exit → Act → World → Prop),fr.eval (.tmp 116) = FV → fr.eval (.tmp 15) = .pointer (some ⟨r,0,none⟩) → P1 w → (∀ w',PP w' → K (fr.put (some 117) (.int .i64 mv)) w') → (ops8_18_7 ps).wp Tryz.prog fr w K Q))
  (hq : Hid (∀ w',PP w' → Q .normal (fr8 v0 v1 v2 (.pointer (some ⟨Pb,0,none⟩)) v4 v5 v6 v7 v8 v9 xa xb xc xd xe (.pointer (some ⟨r,0,none⟩)) xg xh xi xj xk xl xm xn xo xp xq xr xt xu xv xw xx xy xz xA xB xC xD xE xF xG xH xI xJ xK xL xM xN xO xP xQ xR xS xT xU xV xW xX xY xZ ya yb yc yd ye yf yg yh yi yj yk yl ym yn yo yp yq yr yt yu yv yw yx yy yz yA yB yC yD yE yF yG yH yI yJ yK yL yM yN yO yP yQ yR yS yT yU yV yW yX (.pointer (some ⟨r,2,none⟩)) (.int .i64 x) (.agg alC) (.pointer (some ⟨Pb,2,none⟩)) (.pointer (some ⟨Pb,4,none⟩)) (.int .i64 al) FV (.int .i64 mv) (.int .i64 (x + mv)) (.pointer (some ⟨r,2,none⟩)) zi zj zk zl zm zn zo zp zq zr zs zt zu zv zw zx zy zz zA) (w'.setCell ⟨r,2,none⟩ (.int .i64 (x + mv))))) :
  wpAnyH Tryz.prog .any (ops8_18 ps) Q (fun W => W.cell? ⟨Pb,4,none⟩ = some (.int .i64 al)) 7 #[true,false,false,true,true,true,false,false,false,false,false] (fr8 v0 v1 v2 (.pointer (some ⟨Pb,0,none⟩)) v4 v5 v6 v7 v8 v9 xa xb xc xd xe (.pointer (some ⟨r,0,none⟩)) xg xh xi xj xk xl xm xn xo xp xq xr xt xu xv xw xx xy xz xA xB xC xD xE xF xG xH xI xJ xK xL xM xN xO xP xQ xR xS xT xU xV xW xX xY xZ ya yb yc yd ye yf yg yh yi yj yk yl ym yn yo yp yq yr yt yu yv yw yx yy yz yA yB yC yD yE yF yG yH yI yJ yK yL yM yN yO yP yQ yR yS yT yU yV yW yX (.pointer (some ⟨r,2,none⟩)) yZ za (.pointer (some ⟨Pb,2,none⟩)) (.pointer (some ⟨Pb,4,none⟩)) (.int .i64 al) ze zf zg zh zi zj zk zl zm zn zo zp zq zr zs zt zu zv zw zx zy zz zA) w := by
 refine all_h (fuel := 6) [1,2] (by kernel_rfl) (by simp) ?_
 intro i hi
 simp only [List.mem_cons,List.not_mem_nil,or_false] at hi
 rcases hi with rfl | rfl
 ·refine ⟨ops8_18_1 ps,by kernel_rfl,by kernel_rfl,fun K hK => ?_⟩
  have d2 := (h0.out w hW).1
  have hS1 : (fun W => W.cell? ⟨Pb,4,none⟩ = some (.int .i64 al)) w := (h0.out w hW).2
  unfold fr8 ops8_18_1
  go_simp
  refine hK _ _ hS1 (cast_h (fr8 v0 v1 v2 (.pointer (some ⟨Pb,0,none⟩)) v4 v5 v6 v7 v8 v9 xa xb xc xd xe (.pointer (some ⟨r,0,none⟩)) xg xh xi xj xk xl xm xn xo xp xq xr xt xu xv xw xx xy xz xA xB xC xD xE xF xG xH xI xJ xK xL xM xN xO xP xQ xR xS xT xU xV xW xX xY xZ ya yb yc yd ye yf yg yh yi yj yk yl ym yn yo yp yq yr yt yu yv yw yx yy yz yA yB yC yD yE yF yG yH yI yJ yK yL yM yN yO yP yQ yR yS yT yU yV yW yX (.pointer (some ⟨r,2,none⟩)) (.int .i64 x) za (.pointer (some ⟨Pb,2,none⟩)) (.pointer (some ⟨Pb,4,none⟩)) (.int .i64 al) ze zf zg zh zi zj zk zl zm zn zo zp zq zr zs zt zu zv zw zx zy zz zA) (by kernel_rfl) ?_)
  clear hK K
  exact pl_r18_1 Q hQ ps r Pb x mv al FV P0 P1 PP w hW hidx b0 b1 b2 b3 h0 h1 h2 hc1 hc2 hq
 ·refine ⟨ops8_18_2 ps,by kernel_rfl,by kernel_rfl,fun K hK => ?_⟩
  unfold fr8 ops8_18_2
  go_simp
  refine (hc1.out w hW).mono ?_
  rintro e w1 ⟨rfl,hW1⟩
  have hS1 : (fun W => W.cell? ⟨Pb,4,none⟩ = some (.int .i64 al)) w1 := (h1.out w1 hW1).2
  refine hK _ _ hS1 (cast_h (fr8 v0 v1 v2 (.pointer (some ⟨Pb,0,none⟩)) v4 v5 v6 v7 v8 v9 xa xb xc xd xe (.pointer (some ⟨r,0,none⟩)) xg xh xi xj xk xl xm xn xo xp xq xr xt xu xv xw xx xy xz xA xB xC xD xE xF xG xH xI xJ xK xL xM xN xO xP xQ xR xS xT xU xV xW xX xY xZ ya yb yc yd ye yf yg yh yi yj yk yl ym yn yo yp yq yr yt yu yv yw yx yy yz yA yB yC yD yE yF yG yH yI yJ yK yL yM yN yO yP yQ yR yS yT yU yV yW yX (.pointer (some ⟨r,2,none⟩)) yZ (.agg alC) (.pointer (some ⟨Pb,2,none⟩)) (.pointer (some ⟨Pb,4,none⟩)) (.int .i64 al) ze zf zg zh zi zj zk zl zm zn zo zp zq zr zs zt zu zv zw zx zy zz zA) (by kernel_rfl) ?_)
  clear hK K
  refine take_r 6 ⟨some 116,.index 67 (.tmp 112) (.tmp 115),66,ps,#[⟨2,.data⟩,⟨5,.data⟩],none⟩ FV hQ (fun w hS => by have e := hidx.out w; unfold fr8; go_simp) hS1 ?_
  exact pl_r18_2 Q hQ ps r Pb x mv al FV P0 P1 PP w1 hW1 hidx b0 b1 b2 b3 h0 h1 h2 hc1 hc2 hq

theorem pl_r18 (Q : Exit → Act → World → Prop) (hQ : ∀ c x (n : Nat) v w,Q (.panic c) (x.put (some n) v) w → Q (.panic c) x w) (id : Nat) (ps : String) {v0 v1 v2 v4 v5 v6 v7 v8 v9 xa xb xc xd xe xg xh xi xj xk xl xm xn xo xp xq xr xt xu xv xw xx xy xz xA xB xC xD xE xF xG xH xI xJ xK xL xM xN xO xP xQ xR xS xT xU xV xW xX xY xZ ya yb yc yd ye yf yg yh yi yj yk yl ym yn yo yp yq yr yt yu yv yw yx yy yz yA yB yC yD yE yF yG yH yI yJ yK yL yM yN yO yP yQ yR yS yT yU yV yW yX yY yZ za zb zc zd ze zf zg zh zi zj zk zl zm zn zo zp zq zr zs zt zu zv zw zx zy zz zA : Value} (r Pb : Nat) (x mv al : Int) (FV : Value) (P0 P1 PP : World → Prop) (w : World) (hW : P0 (World.drew w))
  (hidx : Hid (∀ W,(Instr.index 67 (.agg alC) (.int .i64 al)).run Tryz.prog W = .ok FV W)) (b0 : 0 ≤ x) (b1 : x ≤ 4095) (b2 : 0 ≤ mv) (b3 : mv ≤ 100000000)
  (h0 : Hid (∀ w,P0 w → w.cell? ⟨r,2,none⟩ = some (.int .i64 x) ∧ w.cell? ⟨Pb,4,none⟩ = some (.int .i64 al))) (h1 : Hid (∀ w,P1 w → w.cell? ⟨r,2,none⟩ = some (.int .i64 x) ∧ w.cell? ⟨Pb,4,none⟩ = some (.int .i64 al))) (h2 : Hid (∀ w,PP w → w.cell? ⟨r,2,none⟩ = some (.int .i64 x) ∧ w.cell? ⟨Pb,4,none⟩ = some (.int .i64 al) ∧ w.frozen? ⟨r,2,none⟩ = false ∧ (w.setCell ⟨r,2,none⟩ (.int .i64 (x + mv))).cell? ⟨Pb,4,none⟩ = some (.int .i64 al)))
  (hc1 : Hid (∀ w,P0 w → Calls Tryz.prog 31 #[] w fun e w' => e = .returned (.agg alC) ∧ P1 w'))
  (hc2 : Hid (∀ (fr : Act) (w : World) (K : Act → World → Prop) (Q : Exit → Act → World → Prop),fr.eval (.tmp 116) = FV → fr.eval (.tmp 15) = .pointer (some ⟨r,0,none⟩) → P1 w → (∀ w',PP w' → K (fr.put (some 117) (.int .i64 mv)) w') → (ops8_18_7 ps).wp Tryz.prog fr w K Q))
  (hq : Hid (∀ w',PP w' → Q .normal (fr8 v0 v1 v2 (.pointer (some ⟨Pb,0,none⟩)) v4 v5 v6 v7 v8 v9 xa xb xc xd xe (.pointer (some ⟨r,0,none⟩)) xg xh xi xj xk xl xm xn xo xp xq xr xt xu xv xw xx xy xz xA xB xC xD xE xF xG xH xI xJ xK xL xM xN xO xP xQ xR xS xT xU xV xW xX xY xZ ya yb yc yd ye yf yg yh yi yj yk yl ym yn yo yp yq yr yt yu yv yw yx yy yz yA yB yC yD yE yF yG yH yI yJ yK yL yM yN yO yP yQ yR yS yT yU yV yW yX (.pointer (some ⟨r,2,none⟩)) (.int .i64 x) (.agg alC) (.pointer (some ⟨Pb,2,none⟩)) (.pointer (some ⟨Pb,4,none⟩)) (.int .i64 al) FV (.int .i64 mv) (.int .i64 (x + mv)) (.pointer (some ⟨r,2,none⟩)) zi zj zk zl zm zn zo zp zq zr zs zt zu zv zw zx zy zz zA) (w'.setCell ⟨r,2,none⟩ (.int .i64 (x + mv))))) :
  (Code.region id (ops8_18 ps) true).wp Tryz.prog Q (fr8 v0 v1 v2 (.pointer (some ⟨Pb,0,none⟩)) v4 v5 v6 v7 v8 v9 xa xb xc xd xe (.pointer (some ⟨r,0,none⟩)) xg xh xi xj xk xl xm xn xo xp xq xr xt xu xv xw xx xy xz xA xB xC xD xE xF xG xH xI xJ xK xL xM xN xO xP xQ xR xS xT xU xV xW xX xY xZ ya yb yc yd ye yf yg yh yi yj yk yl ym yn yo yp yq yr yt yu yv yw yx yy yz yA yB yC yD yE yF yG yH yI yJ yK yL yM yN yO yP yQ yR yS yT yU yV yW yX yY yZ za zb zc zd ze zf zg zh zi zj zk zl zm zn zo zp zq zr zs zt zu zv zw zx zy zz zA) w := by
 have hS : (fun W => W.cell? ⟨Pb,4,none⟩ = some (.int .i64 al)) (World.drew w) := (h0.out _ hW).2
 refine wp_region_held (S := (fun W => W.cell? ⟨Pb,4,none⟩ = some (.int .i64 al))) (by kernel_rfl) ?_
 change wpAnyH _ _ _ _ _ 11 _ _ (World.drew w)
 refine take_r 0 ⟨some 110,.fieldAddr 60 (.tmp 15) 2,0,ps,#[],none⟩ (.pointer (some ⟨r,2,none⟩)) hQ (fun w hS => by unfold fr8; go_simp) hS ?_
 refine take_r 3 ⟨some 113,.fieldAddr 27 (.tmp 3) 2,0,ps,#[],none⟩ (.pointer (some ⟨Pb,2,none⟩)) hQ (fun w hS => by unfold fr8; go_simp) hS ?_
 refine take_r 4 ⟨some 114,.fieldAddr 24 (.tmp 113) 2,0,ps,#[⟨3,.data⟩],none⟩ (.pointer (some ⟨Pb,4,none⟩)) hQ (fun w hS => by unfold fr8; go_simp) hS ?_
 refine take_r 5 ⟨some 115,.load 3 (.tmp 114),3,ps,#[⟨4,.data⟩],none⟩ (.int .i64 al) hQ (fun w hS => by have e := hS; unfold fr8; go_simp) hS ?_
 exact pl_r18_n Q hQ ps r Pb x mv al FV P0 P1 PP _ hW hidx b0 b1 b2 b3 h0 h1 h2 hc1 hc2 hq
end Go.Proofs.YtbdpghjegachaaaGreatDoor
