/-
  What is proved here: the document's region that lays down a mass's kerning.
  What is proved here: what the document's Split tells of any text.
-/
import Derived.Test.YthcphnifnfnceaaGreatDoorG2
import Derived.Test.YthcphnifnfnceaaGreatDoorG33
import Derived.Test.YthcphnifnfnceaaGreatDoorG5
import Derived.Test.YthcphnifnfnceaaGreatDoorG1
namespace Go.Proofs.YthcphnifnfnceaaGreatDoor
open Go.RowKit Go.Shelf
set_option maxRecDepth 100000
set_option maxHeartbeats 4000000
def ops18_19 (ps : String) : Array Oper := #[⟨some 127,.fieldAddr 27 (.tmp 1) 0,0,ps,#[],none⟩,⟨some 128,.load 9 (.tmp 127),9,ps,#[⟨0,.data⟩],none⟩,⟨some 129,.move (.tmp 5),93,ps,#[],none⟩,⟨some 130,.move (.tmp 9),3,ps,#[],none⟩,⟨some 131,.binOp .sub 3 (.tmp 130) (.const (.int .i64 1)) 3,3,ps,#[⟨3,.data⟩],none⟩,⟨some 132,.indexAddr 93 (.tmp 129) (.tmp 131),0,ps,#[⟨2,.data⟩,⟨4,.data⟩],none⟩,⟨some 133,.fieldAddr 101 (.tmp 132) 0,0,ps,#[⟨5,.data⟩],none⟩,⟨some 134,.load 3 (.tmp 133),3,ps,#[⟨6,.data⟩],none⟩,⟨some 135,.index 9 (.tmp 128) (.tmp 134),5,ps,#[⟨1,.data⟩,⟨7,.data⟩],none⟩,⟨some 136,.fieldAddr 27 (.tmp 1) 0,0,ps,#[],none⟩,⟨some 137,.load 9 (.tmp 136),9,ps,#[⟨9,.data⟩],none⟩,⟨some 138,.fieldAddr 101 (.tmp 10) 0,0,ps,#[],none⟩,⟨some 139,.load 3 (.tmp 138),3,ps,#[⟨11,.data⟩],none⟩,⟨some 140,.index 9 (.tmp 137) (.tmp 139),5,ps,#[⟨10,.data⟩,⟨12,.data⟩],none⟩,⟨some 141,.fieldAddr 58 (.tmp 11) 3,0,ps,#[],none⟩,⟨some 142,.load 3 (.tmp 141),3,ps,#[⟨14,.data⟩],none⟩,⟨some 143,.call ⟨.value (.func 117),#[.tmp 135,.tmp 140,.tmp 142],#[5,5,3]⟩,3,ps,#[⟨8,.data⟩,⟨13,.data⟩,⟨15,.data⟩],none⟩,⟨some 144,.fieldAddr 58 (.tmp 11) 5,0,ps,#[⟨0,.phase⟩,⟨1,.phase⟩,⟨2,.phase⟩,⟨3,.phase⟩,⟨4,.phase⟩,⟨5,.phase⟩,⟨6,.phase⟩,⟨7,.phase⟩,⟨8,.phase⟩,⟨9,.phase⟩,⟨10,.phase⟩,⟨11,.phase⟩,⟨12,.phase⟩,⟨13,.phase⟩,⟨14,.phase⟩,⟨15,.phase⟩,⟨16,.phase⟩],none⟩,⟨none,.store 3 (.tmp 144) (.tmp 143),0,ps,#[⟨17,.data⟩,⟨16,.data⟩,⟨16,.chain⟩,⟨0,.phase⟩,⟨1,.phase⟩,⟨2,.phase⟩,⟨3,.phase⟩,⟨4,.phase⟩,⟨5,.phase⟩,⟨6,.phase⟩,⟨7,.phase⟩,⟨8,.phase⟩,⟨9,.phase⟩,⟨10,.phase⟩,⟨11,.phase⟩,⟨12,.phase⟩,⟨13,.phase⟩,⟨14,.phase⟩,⟨15,.phase⟩,⟨16,.phase⟩],none⟩]

theorem rm_r19 (Q : Exit → Act → World → Prop) (hQ : ∀ c x (n : Nat) v w,Q (.panic c) (x.put (some n) v) w → Q (.panic c) x w) (id : Nat) (ps : String) {v0 v2 v3 v4 v6 v7 v8 xa xb xc xd xe xf xg xh xi xj xk xl xm xn xo xp xq xr xt xu xv xw xx xy xz xA xB xC xD xE xF xG xH xI xJ xK xL xM xN xO xP xQ xR xS xT xU xV xW xX xY xZ ya yc yd ye yf yg yh yi yj yk yl ym yn yo yp yq yr yt yu yv yw yx yy yz yA yB yC yD yE yF yG yH yI yJ yK yL yM yN yO yP yQ yR yS yT yU yV yW yX yY yZ za zb zc zd ze zf zg zh zi zj zk zl zm zn zo zp zq zr zs zt zu zv zw zx zy zz zA zB zC zD zE zF zG zH zI zJ zK : Value}
  (B C M gl o n cp k k1 p x x1 : Nat) (a : Pa) (y kd s wd q yb yb1 : Int) (hx : x < a.t.size) (hyb : ((a.t[x]'hx).toNat : Int) = yb) (hyr : 0 ≤ yb ∧ yb < 256) (hx1 : x1 < a.t.size) (hyb1 : ((a.t[x1]'hx1).toNat : Int) = yb1) (hyr1 : 0 ≤ yb1 ∧ yb1 < 256) (hs : 0 ≤ s ∧ s ≤ 64) (hk1 : IntKind.i64.wrap ((k : Int) - 1) = k1) (hkn : (k1 : Int) < n) (hp : o + k1 * 3 = p) (hBM : B ≠ M) (hCM : C ≠ M) (hgM : gl ≠ M) (w0 : World) (hP : PB w0 B a) (hC : CB w0 C x y kd) (hM : MB w0 M x y kd s wd q) (hgl : gl < w0.heap.size) (hg : w0.cell? ⟨gl,p,none⟩ = some (.int .i64 (x1 : Nat)))
  (hq : ∀ w',MB w' M x y kd s wd (kernI yb1 yb s) → Turns (fun b => b = M) w0 w' → Q .normal (fr18 v0 (.pointer (some ⟨B,0,none⟩)) v2 v3 v4 (.slice (some ⟨gl,o,none⟩) n cp) v6 v7 v8 (.int .i64 (k : Nat)) (.pointer (some ⟨C,0,none⟩)) (.pointer (some ⟨M,0,none⟩)) xa xb xc xd xe xf xg xh xi xj xk xl xm xn xo xp xq xr xt xu xv xw xx xy xz xA xB xC xD xE xF xG xH xI xJ xK xL xM xN xO xP xQ xR xS xT xU xV xW xX xY xZ ya yc yd ye yf yg yh yi yj yk yl ym yn yo yp yq yr yt yu yv yw yx yy yz yA yB yC yD yE yF yG yH yI yJ yK yL yM yN yO yP yQ yR yS yT yU yV yW yX yY yZ za zb zc zd ze zf zg zh zi zj zk zl zm zn (.pointer (some ⟨B,0,none⟩)) (.string a.t) (.slice (some ⟨gl,o,none⟩) n cp) (.int .i64 (k : Nat)) (.int .i64 (k1 : Nat)) (.pointer (some ⟨gl,p,none⟩)) (.pointer (some ⟨gl,p,none⟩)) (.int .i64 (x1 : Nat)) (.int .u8 yb1) (.pointer (some ⟨B,0,none⟩)) (.string a.t) (.pointer (some ⟨C,0,none⟩)) (.int .i64 (x : Nat)) (.int .u8 yb) (.pointer (some ⟨M,3,none⟩)) (.int .i64 s) (.int .i64 (kernI yb1 yb s)) (.pointer (some ⟨M,5,none⟩)) zG zH zI zJ zK) w') :
  (Code.region id (ops18_19 ps) true).wp Tryz.prog Q (fr18 v0 (.pointer (some ⟨B,0,none⟩)) v2 v3 v4 (.slice (some ⟨gl,o,none⟩) n cp) v6 v7 v8 (.int .i64 (k : Nat)) (.pointer (some ⟨C,0,none⟩)) (.pointer (some ⟨M,0,none⟩)) xa xb xc xd xe xf xg xh xi xj xk xl xm xn xo xp xq xr xt xu xv xw xx xy xz xA xB xC xD xE xF xG xH xI xJ xK xL xM xN xO xP xQ xR xS xT xU xV xW xX xY xZ ya yc yd ye yf yg yh yi yj yk yl ym yn yo yp yq yr yt yu yv yw yx yy yz yA yB yC yD yE yF yG yH yI yJ yK yL yM yN yO yP yQ yR yS yT yU yV yW yX yY yZ za zb zc zd ze zf zg zh zi zj zk zl zm zn zo zp zq zr zs zt zu zv zw zx zy zz zA zB zC zD zE zF zG zH zI zJ zK) w0 := by
 refine wp_region_held (S := fun w => PB w B a ∧ w.cell? ⟨C,0,none⟩ = some (.int .i64 (x : Nat)) ∧ w.cell? ⟨M,3,none⟩ = some (.int .i64 s) ∧ w.cell? ⟨gl,p,none⟩ = some (.int .i64 (x1 : Nat))) (by kernel_rfl) ?_
 change wpAnyH _ _ _ _ _ 19 _ _ (World.drew w0)
 have C0 : (fun w => PB w B a ∧ w.cell? ⟨C,0,none⟩ = some (.int .i64 (x : Nat)) ∧ w.cell? ⟨M,3,none⟩ = some (.int .i64 s) ∧ w.cell? ⟨gl,p,none⟩ = some (.int .i64 (x1 : Nat))) w0.drew := ⟨⟨hP.row⟩,hC.c0,hM.c3,hg⟩
 have hM0 : MB w0.drew M x y kd s wd q := ⟨hM.row⟩
 have hMl : M < w0.drew.heap.size := hM.lt
 have hCl : C < w0.drew.heap.size := hC.lt
 refine take_r 0 ⟨some 127,.fieldAddr 27 (.tmp 1) 0,0,ps,#[],none⟩ (.pointer (some ⟨B,0,none⟩)) hQ (fun w hS => by unfold fr18; go_simp) C0 ?_
 refine take_r 1 ⟨some 128,.load 9 (.tmp 127),9,ps,#[⟨0,.data⟩],none⟩ (.string a.t) hQ (fun w hS => by have e := hS.1.c0; unfold fr18; go_simp) C0 ?_
 refine pures_h (fuel := 15) (by kernel_rfl) hQ C0 [2,3] (fr18 v0 (.pointer (some ⟨B,0,none⟩)) v2 v3 v4 (.slice (some ⟨gl,o,none⟩) n cp) v6 v7 v8 (.int .i64 (k : Nat)) (.pointer (some ⟨C,0,none⟩)) (.pointer (some ⟨M,0,none⟩)) xa xb xc xd xe xf xg xh xi xj xk xl xm xn xo xp xq xr xt xu xv xw xx xy xz xA xB xC xD xE xF xG xH xI xJ xK xL xM xN xO xP xQ xR xS xT xU xV xW xX xY xZ ya yc yd ye yf yg yh yi yj yk yl ym yn yo yp yq yr yt yu yv yw yx yy yz yA yB yC yD yE yF yG yH yI yJ yK yL yM yN yO yP yQ yR yS yT yU yV yW yX yY yZ za zb zc zd ze zf zg zh zi zj zk zl zm zn (.pointer (some ⟨B,0,none⟩)) (.string a.t) (.slice (some ⟨gl,o,none⟩) n cp) (.int .i64 (k : Nat)) zs zt zu zv zw zx zy zz zA zB zC zD zE zF zG zH zI zJ zK) (by kernel_rfl) (by kernel_rfl) ?_
 refine take_r 4 ⟨some 131,.binOp .sub 3 (.tmp 130) (.const (.int .i64 1)) 3,3,ps,#[⟨3,.data⟩],none⟩ (.int .i64 (k1 : Nat)) hQ (fun w hS => by have h1 := hk1; unfold fr18; go_simp) C0 ?_
 refine take_r 5 ⟨some 132,.indexAddr 93 (.tmp 129) (.tmp 131),0,ps,#[⟨2,.data⟩,⟨4,.data⟩],none⟩ (.pointer (some ⟨gl,p,none⟩)) hQ (fun w hS => by have h1 := hkn; have h2 := hp; unfold fr18; go_simp) C0 ?_
 refine take_r 6 ⟨some 133,.fieldAddr 101 (.tmp 132) 0,0,ps,#[⟨5,.data⟩],none⟩ (.pointer (some ⟨gl,p,none⟩)) hQ (fun w hS => by unfold fr18; go_simp) C0 ?_
 refine take_r 7 ⟨some 134,.load 3 (.tmp 133),3,ps,#[⟨6,.data⟩],none⟩ (.int .i64 (x1 : Nat)) hQ (fun w hS => by have e := hS.2.2.2; unfold fr18; go_simp) C0 ?_
 refine take_r 8 ⟨some 135,.index 9 (.tmp 128) (.tmp 134),5,ps,#[⟨1,.data⟩,⟨7,.data⟩],none⟩ (.int .u8 yb1) hQ (fun w hS => by have h1 := hyb1; have h2 : (x1 : Int) < a.t.size := (by omega); unfold fr18; go_simp) C0 ?_
 refine take_k 9 ⟨some 136,.fieldAddr 27 (.tmp 1) 0,0,ps,#[],none⟩ (.pointer (some ⟨B,0,none⟩)) (fr18 v0 (.pointer (some ⟨B,0,none⟩)) v2 v3 v4 (.slice (some ⟨gl,o,none⟩) n cp) v6 v7 v8 (.int .i64 (k : Nat)) (.pointer (some ⟨C,0,none⟩)) (.pointer (some ⟨M,0,none⟩)) xa xb xc xd xe xf xg xh xi xj xk xl xm xn xo xp xq xr xt xu xv xw xx xy xz xA xB xC xD xE xF xG xH xI xJ xK xL xM xN xO xP xQ xR xS xT xU xV xW xX xY xZ ya yc yd ye yf yg yh yi yj yk yl ym yn yo yp yq yr yt yu yv yw yx yy yz yA yB yC yD yE yF yG yH yI yJ yK yL yM yN yO yP yQ yR yS yT yU yV yW yX yY yZ za zb zc zd ze zf zg zh zi zj zk zl zm zn (.pointer (some ⟨B,0,none⟩)) (.string a.t) (.slice (some ⟨gl,o,none⟩) n cp) (.int .i64 (k : Nat)) (.int .i64 (k1 : Nat)) (.pointer (some ⟨gl,p,none⟩)) (.pointer (some ⟨gl,p,none⟩)) (.int .i64 (x1 : Nat)) (.int .u8 yb1) (.pointer (some ⟨B,0,none⟩)) zy zz zA zB zC zD zE zF zG zH zI zJ zK) hQ (fun w hS => by unfold fr18; go_simp) C0 ?_
 refine take_r 10 ⟨some 137,.load 9 (.tmp 136),9,ps,#[⟨9,.data⟩],none⟩ (.string a.t) hQ (fun w hS => by have e := hS.1.c0; unfold fr18; go_simp) C0 ?_
 refine take_r 11 ⟨some 138,.fieldAddr 101 (.tmp 10) 0,0,ps,#[],none⟩ (.pointer (some ⟨C,0,none⟩)) hQ (fun w hS => by unfold fr18; go_simp) C0 ?_
 refine take_r 12 ⟨some 139,.load 3 (.tmp 138),3,ps,#[⟨11,.data⟩],none⟩ (.int .i64 (x : Nat)) hQ (fun w hS => by have e := hS.2.1; unfold fr18; go_simp) C0 ?_
 refine take_r 13 ⟨some 140,.index 9 (.tmp 137) (.tmp 139),5,ps,#[⟨10,.data⟩,⟨12,.data⟩],none⟩ (.int .u8 yb) hQ (fun w hS => by have h1 := hyb; have h2 : (x : Int) < a.t.size := (by omega); unfold fr18; go_simp) C0 ?_
 refine take_r 14 ⟨some 141,.fieldAddr 58 (.tmp 11) 3,0,ps,#[],none⟩ (.pointer (some ⟨M,3,none⟩)) hQ (fun w hS => by unfold fr18; go_simp) C0 ?_
 refine take_k 15 ⟨some 142,.load 3 (.tmp 141),3,ps,#[⟨14,.data⟩],none⟩ (.int .i64 s) (fr18 v0 (.pointer (some ⟨B,0,none⟩)) v2 v3 v4 (.slice (some ⟨gl,o,none⟩) n cp) v6 v7 v8 (.int .i64 (k : Nat)) (.pointer (some ⟨C,0,none⟩)) (.pointer (some ⟨M,0,none⟩)) xa xb xc xd xe xf xg xh xi xj xk xl xm xn xo xp xq xr xt xu xv xw xx xy xz xA xB xC xD xE xF xG xH xI xJ xK xL xM xN xO xP xQ xR xS xT xU xV xW xX xY xZ ya yc yd ye yf yg yh yi yj yk yl ym yn yo yp yq yr yt yu yv yw yx yy yz yA yB yC yD yE yF yG yH yI yJ yK yL yM yN yO yP yQ yR yS yT yU yV yW yX yY yZ za zb zc zd ze zf zg zh zi zj zk zl zm zn (.pointer (some ⟨B,0,none⟩)) (.string a.t) (.slice (some ⟨gl,o,none⟩) n cp) (.int .i64 (k : Nat)) (.int .i64 (k1 : Nat)) (.pointer (some ⟨gl,p,none⟩)) (.pointer (some ⟨gl,p,none⟩)) (.int .i64 (x1 : Nat)) (.int .u8 yb1) (.pointer (some ⟨B,0,none⟩)) (.string a.t) (.pointer (some ⟨C,0,none⟩)) (.int .i64 (x : Nat)) (.int .u8 yb) (.pointer (some ⟨M,3,none⟩)) (.int .i64 s) zE zF zG zH zI zJ zK) hQ (fun w hS => by have e := hS.2.2.1; unfold fr18; go_simp) C0 ?_
 refine want_k 16 ⟨some 143,.call ⟨.value (.func 117),#[.tmp 135,.tmp 140,.tmp 142],#[5,5,3]⟩,3,ps,#[⟨8,.data⟩,⟨13,.data⟩,⟨15,.data⟩],none⟩ fun K hK => ?_
 unfold fr18
 go_simp
 refine (rPair_any yb1 yb s hyr1 hyr hs.1 hs.2 _).mono ?_
 rintro e w1 ⟨rfl,B1⟩
 have C1 : PB w1 B a ∧ w1.cell? ⟨C,0,none⟩ = some (.int .i64 (x : Nat)) ∧ w1.cell? ⟨M,3,none⟩ = some (.int .i64 s) ∧ w1.cell? ⟨gl,p,none⟩ = some (.int .i64 (x1 : Nat)) := ⟨C0.1.below B1 C0.1.lt,(B1.cell hCl).trans C0.2.1,(B1.cell hMl).trans C0.2.2.1,(B1.cell hgl).trans C0.2.2.2⟩
 have hM1 : MB w1 M x y kd s wd q := hM0.below B1 hMl
 refine hK _ _ C1 (cast_h (fr18 v0 (.pointer (some ⟨B,0,none⟩)) v2 v3 v4 (.slice (some ⟨gl,o,none⟩) n cp) v6 v7 v8 (.int .i64 (k : Nat)) (.pointer (some ⟨C,0,none⟩)) (.pointer (some ⟨M,0,none⟩)) xa xb xc xd xe xf xg xh xi xj xk xl xm xn xo xp xq xr xt xu xv xw xx xy xz xA xB xC xD xE xF xG xH xI xJ xK xL xM xN xO xP xQ xR xS xT xU xV xW xX xY xZ ya yc yd ye yf yg yh yi yj yk yl ym yn yo yp yq yr yt yu yv yw yx yy yz yA yB yC yD yE yF yG yH yI yJ yK yL yM yN yO yP yQ yR yS yT yU yV yW yX yY yZ za zb zc zd ze zf zg zh zi zj zk zl zm zn (.pointer (some ⟨B,0,none⟩)) (.string a.t) (.slice (some ⟨gl,o,none⟩) n cp) (.int .i64 (k : Nat)) (.int .i64 (k1 : Nat)) (.pointer (some ⟨gl,p,none⟩)) (.pointer (some ⟨gl,p,none⟩)) (.int .i64 (x1 : Nat)) (.int .u8 yb1) (.pointer (some ⟨B,0,none⟩)) (.string a.t) (.pointer (some ⟨C,0,none⟩)) (.int .i64 (x : Nat)) (.int .u8 yb) (.pointer (some ⟨M,3,none⟩)) (.int .i64 s) (.int .i64 (kernI yb1 yb s)) zF zG zH zI zJ zK) (by kernel_rfl) ?_)
 clear hK K
 refine take_r 17 ⟨some 144,.fieldAddr 58 (.tmp 11) 5,0,ps,#[⟨0,.phase⟩,⟨1,.phase⟩,⟨2,.phase⟩,⟨3,.phase⟩,⟨4,.phase⟩,⟨5,.phase⟩,⟨6,.phase⟩,⟨7,.phase⟩,⟨8,.phase⟩,⟨9,.phase⟩,⟨10,.phase⟩,⟨11,.phase⟩,⟨12,.phase⟩,⟨13,.phase⟩,⟨14,.phase⟩,⟨15,.phase⟩,⟨16,.phase⟩],none⟩ (.pointer (some ⟨M,5,none⟩)) hQ (fun w hS => by unfold fr18; go_simp) C1 ?_
 refine want_k 18 ⟨none,.store 3 (.tmp 144) (.tmp 143),0,ps,#[⟨17,.data⟩,⟨16,.data⟩,⟨16,.chain⟩,⟨0,.phase⟩,⟨1,.phase⟩,⟨2,.phase⟩,⟨3,.phase⟩,⟨4,.phase⟩,⟨5,.phase⟩,⟨6,.phase⟩,⟨7,.phase⟩,⟨8,.phase⟩,⟨9,.phase⟩,⟨10,.phase⟩,⟨11,.phase⟩,⟨12,.phase⟩,⟨13,.phase⟩,⟨14,.phase⟩,⟨15,.phase⟩,⟨16,.phase⟩],none⟩ fun K hK => ?_
 have c9 := hM1.c5
 have f9 : w1.frozen? ⟨M,5,none⟩ = false := Lib.frozen_of_heap hM1.row 5
 have G9 := hM1.set5 (kernI yb1 yb s)
 have T9 : Turns (fun b => b = M) w1 (w1.setCell ⟨M,5,none⟩ (.int .i64 (kernI yb1 yb s))) := Turns.setCell (X := fun b => b = M) _ (p := ⟨M,5,none⟩) rfl _
 have C9 : (fun w => PB w B a ∧ w.cell? ⟨C,0,none⟩ = some (.int .i64 (x : Nat)) ∧ w.cell? ⟨M,3,none⟩ = some (.int .i64 s) ∧ w.cell? ⟨gl,p,none⟩ = some (.int .i64 (x1 : Nat))) (w1.setCell ⟨M,5,none⟩ (.int .i64 (kernI yb1 yb s))) := ⟨C1.1.turns T9 (fun h => hBM h),(cell_far _ _ _ _ _ _ hCM).trans C1.2.1,G9.c3,(cell_far _ _ _ _ _ _ hgM).trans C1.2.2.2⟩
 unfold fr18
 go_simp
 refine hK _ _ C9 (cast_h (fr18 v0 (.pointer (some ⟨B,0,none⟩)) v2 v3 v4 (.slice (some ⟨gl,o,none⟩) n cp) v6 v7 v8 (.int .i64 (k : Nat)) (.pointer (some ⟨C,0,none⟩)) (.pointer (some ⟨M,0,none⟩)) xa xb xc xd xe xf xg xh xi xj xk xl xm xn xo xp xq xr xt xu xv xw xx xy xz xA xB xC xD xE xF xG xH xI xJ xK xL xM xN xO xP xQ xR xS xT xU xV xW xX xY xZ ya yc yd ye yf yg yh yi yj yk yl ym yn yo yp yq yr yt yu yv yw yx yy yz yA yB yC yD yE yF yG yH yI yJ yK yL yM yN yO yP yQ yR yS yT yU yV yW yX yY yZ za zb zc zd ze zf zg zh zi zj zk zl zm zn (.pointer (some ⟨B,0,none⟩)) (.string a.t) (.slice (some ⟨gl,o,none⟩) n cp) (.int .i64 (k : Nat)) (.int .i64 (k1 : Nat)) (.pointer (some ⟨gl,p,none⟩)) (.pointer (some ⟨gl,p,none⟩)) (.int .i64 (x1 : Nat)) (.int .u8 yb1) (.pointer (some ⟨B,0,none⟩)) (.string a.t) (.pointer (some ⟨C,0,none⟩)) (.int .i64 (x : Nat)) (.int .u8 yb) (.pointer (some ⟨M,3,none⟩)) (.int .i64 s) (.int .i64 (kernI yb1 yb s)) (.pointer (some ⟨M,5,none⟩)) zG zH zI zJ zK) (by kernel_rfl) ?_)
 clear hK K
 exact wpAnyH_done (by kernel_rfl) (hq _ G9 (((Turns.drew _ _).trans ((Turns.of_below B1).mono (fun _ h => h.elim))).trans T9)) _
end Go.Proofs.YthcphnifnfnceaaGreatDoor

namespace Go.Proofs.YthcphnifnfnceaaGreatDoor
open Go.RowKit Go.Shelf
set_option maxRecDepth 100000
set_option maxHeartbeats 2000000

def CBox (W : World) (B : Nat) (a b c : Int) : Prop := W.heap[B]? = some (.cells #[.int .i64 a,.int .i64 b,.int .i64 c] 101 (0,0))
theorem CBox.cells {W : World} {B : Nat} {a b c : Int} (h : CBox W B a b c) : W.cell? ⟨B,0,none⟩ = some (.int .i64 a) ∧ W.cell? ⟨B,1,none⟩ = some (.int .i64 b) ∧ W.cell? ⟨B,2,none⟩ = some (.int .i64 c) :=
 ⟨by rw [Lib.cell_of_heap h]; rfl,by rw [Lib.cell_of_heap h]; rfl,by rw [Lib.cell_of_heap h]; rfl⟩
theorem CBox.set {W : World} {B : Nat} {a b c : Int} (h : CBox W B a b c) (b' : Int) : CBox (W.setCell ⟨B,1,none⟩ (.int .i64 b')) B a b' c := heap_setCell_same W B 1 _ 101 _ h
def toOf (B : Nat) (W : World) : Nat := match W.cell? ⟨B,1,none⟩ with
 | some v => (intOf v).toNat
 | none => 0
theorem toOf_box {W : World} {B : Nat} {a c : Int} {b : Nat} (h : CBox W B a b c) : toOf B W = b := by
 unfold toOf; rw [h.cells.2.1]; simp [intOf]
theorem src_one (w : World) (l : List Value) (e : TypeId) (hl : l.length = 3) (h1 : ∀ u ∈ l,u.oneCell' = true) : Srcs (w.alloc (.cells l.toArray e)) 3 (.slice (some ⟨w.heap.size,0,none⟩) 1 1) 1 l :=
 ⟨by omega,h1,.inr ⟨_,1,rfl,cells_new w l e⟩⟩

structure Kept (t : ByteArray) (w : World) (v : Value) (k : Nat) (W : World) : Prop where
 row : W.ownsRow w.heap.size 101 3 v k (rowC t k)
 below : Below w.heap.size w W
theorem Kept.alloc {t : ByteArray} {w : World} {v : Value} {k : Nat} {W : World} (h : Kept t w v k W) (o : Obj) : Kept t w v k (W.alloc o) := ⟨h.row.alloc _,h.below.alloc h.below.size _⟩
theorem Kept.set {t : ByteArray} {w : World} {v : Value} {k B : Nat} {W : World} (h : Kept t w v k W) (hB : w.heap.size ≤ B) (hv : v.ownBlock ≠ some B) (i : Nat) (u : Value) : Kept t w v k (W.setCell ⟨B,i,none⟩ u) :=
 ⟨ownsRow_setCell_other h.row hv u,h.below.setCell (p := ⟨B,i,none⟩) hB u⟩

theorem rsplit_ok (t : ByteArray) (h : wrongI t = 0) (w : World) : Calls Tryz.prog 112 #[.string t] w fun e w' => ∃ v,e = .returned (.tuple #[v,.int .i64 0]) ∧ w'.ownsRow w.heap.size 101 3 v (num t) (rowC t (num t)) ∧ Below w.heap.size w w' := by
 have hR := wrong_any t w
 have hsz := ok_size h
 have hnl := num_le t
 have hK := rkind_any
 have hA := raccent_any
 obtain ⟨i0,hi,hz0,hz1,hz2⟩ := info_parts info28
 rw [h] at hR
 clear h
 go_enter Tryz.func112,Tryz.ntmps112
 go_wp2_with (go_at_call 74; refine hR.mono ?_; rintro e w' ⟨rfl,hww⟩; subst w')
 clear hR
 go_loopw [5,6] (fun v p wr => ∃ k : Nat,k ≤ num t ∧ p = .int .i64 (st t k : Nat) ∧ Hid (Kept t w v k wr)) (fun _ p _ => t.size - (intOf p).toNat)
 case atStart => exact ⟨0,Nat.zero_le _,rfl,⟨World.ownsRow_nil _ _ _ _,Below.refl _ _⟩⟩
 case round =>
  obtain ⟨k,hk,rfl,hkp⟩ := hrel
  by_cases hlt : st t k < t.size
  ·have hkn := lt_num hlt
   have hbe := bt_eq hlt
   have hs1 := st_succ hlt
   have hs2 := st_le t (k + 1)
   have hs3 := st_lt hlt
   have hE1 : Hid (∀ j,kindI (bt t (st t k)) = 1 → (1 ≤ j ∧ j ≤ 3) → (∀ m,1 ≤ m → m < j → accB (bt t (st t k + m)) = true) → (j = 3 ∨ accB (bt t (st t k + j)) = false) → st t (k + 1) = st t k + j) := fun j a b c d => hs1.trans (endN_is a b c d)
   have hE2 : Hid (kindI (bt t (st t k)) ≠ 1 → st t (k + 1) = st t k + 1) := fun h1 => hs1.trans (by unfold endN; rw [if_neg h1])
   have hrow1 : Hid (rowC t (k + 1) = rowC t k ++ [.int .i64 (st t k : Nat),.int .i64 (st t (k + 1) : Nat),.int .i64 (kindI (bt t (st t k)))]) := rfl
   have hrb : Hid (∀ g,u5.ownBlock = some g → g < wr.heap.size) := fun g hg => (hkp.out.row.lt g hg).2
   have hks := hkp.out.below.size
   have hgl : Hid (st t (k + 1) = st t (k + 1)) := rfl
   clear hs1
   generalize hq0 : st t (k + 1) = q at *
   have hq : Hid (st t (k + 1) = q) := hq0
   clear hq0 hgl
   generalize hp0 : st t k = p at *
   clear hp0
   generalize hkd0 : kindI (bt t p) = kd at *
   have hkd : Hid (kindI (bt t p) = kd) := hkd0
   rw [hbe] at hkd0
   clear hbe
   go_wp2_with (go_at_call 109; refine (hK _ _).mono ?_; rw [hkd0]; rintro e w' ⟨rfl,hww⟩; subst w')
   have hE3 : Hid (∀ r,kd = 1 → p < r → r ≤ p + 3 → (∀ m,p < m → m < r → accB (bt t m) = true) → (r = p + 3 ∨ accB (bt t r) = false) → q = r) := fun r a b c d e => by
    have := hE1.out (r - p) a (by omega) (fun m h1 h2 => d (p + m) (by omega) (by omega)) (by rw [show p + (r - p) = r by omega]; rcases e with e | e; exact .inl (by omega); exact .inr e)
    omega
   clear hE1
   obtain ⟨B,hB⟩ : ∃ B,wr.heap.size = B := ⟨_,rfl⟩
   obtain ⟨w1,hw1⟩ : ∃ w1,wr.alloc (Obj.cells #[Value.int IntKind.i64 p,Value.int IntKind.i64 ((p : Int) + 1),Value.int IntKind.i64 kd] 101) = w1 := ⟨_,rfl⟩
   have hb1 : CBox w1 B p ((p + 1 : Nat) : Int) kd := by rw [← hw1,← hB]; exact World.alloc_heap_new wr _
   have hk1 : Hid (Kept t w u5 k w1) := by show Kept t w u5 k w1; rw [← hw1]; exact hkp.out.alloc _
   have hne : Hid (u5.ownBlock ≠ some B) := fun e => by have := hrb.out B e; omega
   rw [hw1,hB]
   rw [hB] at hks
   clear hw1 hB hrb hkp hkd0 hK
   have hv5 : Hid (u5 = u5) := rfl
   clear hv5
   go_loopw [25] (fun _ wr => ∃ r : Nat,p < r ∧ r ≤ p + 3 ∧ r ≤ t.size ∧ CBox wr B p r kd ∧ Hid (Kept t w u5 k wr) ∧ Hid (kd ≠ 1 → r = p + 1) ∧ Hid (∀ m,p < m → m < r → accB (bt t m) = true)) (fun _ wr => t.size - toOf B wr)
   case atStart => exact ⟨p + 1,by omega,by omega,by omega,hb1,hk1,fun _ => rfl,fun m _ _ => by omega⟩
   case round =>
    obtain ⟨r,hr1,hr2,hr3,hbx,hkp,hr4,hall⟩ := hrel
    obtain ⟨c0,c1,c2⟩ := hbx.cells
    by_cases h1 : kd = 1
    ·have f0 : (kd == 1) = true := by simpa using h1
     by_cases hlt2 : r < t.size
     ·have f1 : (r : Int) < t.size := by omega
      by_cases h3 : r = p + 3
      ·have hqr := hE3.out r h1 hr1 hr2 hall.out (.inl h3)
       have f2 : ¬ (r : Int) < p + 3 := by omega
       clear h1 h3 hE2 hE3 hall hr4
       subst hqr
       go_wp2_with (at_builtin; refine wpList_append_any _ rfl _ _ 93 rfl w.heap.size 101 i0 _ 3 24 Tryz.underlying93 hi hz0 hz1 hz2 rfl (by decide) _ k (rowC t k) rfl (by exact hkp.out.row.alloc _) 1 _ _ rfl (by exact src_one wr [.int .i64 (p : Nat),.int .i64 (q : Nat),.int .i64 kd] 101 rfl (by intro u hu; simp at hu; rcases hu with rfl | rfl | rfl <;> rfl)) (by unfold maxLen; omega) (by omega) (by have := hkp.out.below.size; simp; omega) ?_; intro v' w2 hown hgrow; have hbx2 : CBox w2 B p q kd := (hgrow.block B (by have := (Array.getElem?_eq_some_iff.1 hbx).1; simp; omega) (fun e => hne.out e.symm)).trans ((Below.heap_alloc _ _ _ (Array.getElem?_eq_some_iff.1 hbx).1).trans hbx); have d1 := hbx2.cells.2.1)
       have hkp2 : Kept t w v' (k + 1) w2 := ⟨by rw [hrow1.out]; exact hown,below_grown (hkp.out.below.alloc hkp.out.below.size _) (hkp.out.row.alloc _) (Nat.le_refl _) (Nat.le_refl _) hgrow⟩
       go_roundw
       case rel => exact ⟨k + 1,hkn,by rw [hq.out],hkp2⟩
       case measure => simp [intOf]; omega
      ·have f2 : (r : Int) < p + 3 := by omega
       cases hv : accB (bt t r)
       ·have hqr := hE3.out r h1 hr1 hr2 hall.out (.inr hv)
        have hbr := bt_eq hlt2
        rw [hbr] at hv
        clear h1 hE2 hE3 hall hr4 hbr h3
        subst hqr
        go_wp2_with (first | (go_at_call 149; refine (hA _ _).mono ?_; rw [hv]; rintro e w' ⟨rfl,hww⟩; subst w') | (at_builtin; refine wpList_append_any _ rfl _ _ 93 rfl w.heap.size 101 i0 _ 3 24 Tryz.underlying93 hi hz0 hz1 hz2 rfl (by decide) _ k (rowC t k) rfl (by exact hkp.out.row.alloc _) 1 _ _ rfl (by exact src_one wr [.int .i64 (p : Nat),.int .i64 (q : Nat),.int .i64 kd] 101 rfl (by intro u hu; simp at hu; rcases hu with rfl | rfl | rfl <;> rfl)) (by unfold maxLen; omega) (by omega) (by have := hkp.out.below.size; simp; omega) ?_; intro v' w2 hown hgrow; have hbx2 : CBox w2 B p q kd := (hgrow.block B (by have := (Array.getElem?_eq_some_iff.1 hbx).1; simp; omega) (fun e => hne.out e.symm)).trans ((Below.heap_alloc _ _ _ (Array.getElem?_eq_some_iff.1 hbx).1).trans hbx); have d1 := hbx2.cells.2.1))
        have hkp2 : Kept t w v' (k + 1) w2 := ⟨by rw [hrow1.out]; exact hown,below_grown (hkp.out.below.alloc hkp.out.below.size _) (hkp.out.row.alloc _) (Nat.le_refl _) (Nat.le_refl _) hgrow⟩
        go_roundw
        case rel => exact ⟨k + 1,hkn,by rw [hq.out],hkp2⟩
        case measure => simp [intOf]; omega
       ·have hyes : Hid (∀ m,p < m → m < r + 1 → accB (bt t m) = true) := fun m h1 h2 => by
         by_cases h : m < r
         ·exact hall.out m h1 h
         ·obtain rfl : m = r := by omega
          exact hv
        have hbr := bt_eq hlt2
        rw [hbr] at hv
        have hbx2 := hbx.set ((r : Int) + 1)
        have hkp2 : Hid (Kept t w u5 k (wr.setCell ⟨B,1,none⟩ (.int .i64 ((r : Int) + 1)))) := hkp.out.set hks hne.out 1 _
        have hm0 : Hid (toOf B wr = r) := toOf_box hbx
        have hm1 : Hid (toOf B (wr.setCell ⟨B,1,none⟩ (.int .i64 ((r : Int) + 1))) = r + 1) := toOf_box (b := r + 1) hbx2
        have hfz : wr.frozen? ⟨B,1,none⟩ = false := Lib.frozen_of_heap hbx 1
        have h1' : Hid (kd = 1) := h1
        clear h1 hE2 hE3 hall hr4 hbr h3
        go_wp2_with (go_at_call 149; refine (hA _ _).mono ?_; rw [hv]; rintro e w' ⟨rfl,hww⟩; subst w')
        go_roundw
        case rel => exact ⟨r + 1,by omega,by omega,by omega,hbx2,hkp2,fun h => absurd h1'.out h,hyes⟩
        case measure => rw [hm0.out,hm1.out]; omega
     ·have hv : accB (bt t r) = false := by rw [bt_no hlt2]; decide
      have f1 : ¬ (r : Int) < t.size := by omega
      have hqr := hE3.out r h1 hr1 hr2 hall.out (.inr hv)
      clear h1 hE2 hE3 hall hr4 hv
      subst hqr
      go_wp2_with (at_builtin; refine wpList_append_any _ rfl _ _ 93 rfl w.heap.size 101 i0 _ 3 24 Tryz.underlying93 hi hz0 hz1 hz2 rfl (by decide) _ k (rowC t k) rfl (by exact hkp.out.row.alloc _) 1 _ _ rfl (by exact src_one wr [.int .i64 (p : Nat),.int .i64 (q : Nat),.int .i64 kd] 101 rfl (by intro u hu; simp at hu; rcases hu with rfl | rfl | rfl <;> rfl)) (by unfold maxLen; omega) (by omega) (by have := hkp.out.below.size; simp; omega) ?_; intro v' w2 hown hgrow; have hbx2 : CBox w2 B p q kd := (hgrow.block B (by have := (Array.getElem?_eq_some_iff.1 hbx).1; simp; omega) (fun e => hne.out e.symm)).trans ((Below.heap_alloc _ _ _ (Array.getElem?_eq_some_iff.1 hbx).1).trans hbx); have d1 := hbx2.cells.2.1)
      have hkp2 : Kept t w v' (k + 1) w2 := ⟨by rw [hrow1.out]; exact hown,below_grown (hkp.out.below.alloc hkp.out.below.size _) (hkp.out.row.alloc _) (Nat.le_refl _) (Nat.le_refl _) hgrow⟩
      go_roundw
      case rel => exact ⟨k + 1,hkn,by rw [hq.out],hkp2⟩
      case measure => simp [intOf]; omega
    ·have f0 : (kd == 1) = false := by simpa using h1
     have hqr : q = r := (hE2.out h1).trans (hr4.out h1).symm
     clear h1 hE2 hE3 hall hr4
     subst hqr
     go_wp2_with (at_builtin; refine wpList_append_any _ rfl _ _ 93 rfl w.heap.size 101 i0 _ 3 24 Tryz.underlying93 hi hz0 hz1 hz2 rfl (by decide) _ k (rowC t k) rfl (by exact hkp.out.row.alloc _) 1 _ _ rfl (by exact src_one wr [.int .i64 (p : Nat),.int .i64 (q : Nat),.int .i64 kd] 101 rfl (by intro u hu; simp at hu; rcases hu with rfl | rfl | rfl <;> rfl)) (by unfold maxLen; omega) (by omega) (by have := hkp.out.below.size; simp; omega) ?_; intro v' w2 hown hgrow; have hbx2 : CBox w2 B p q kd := (hgrow.block B (by have := (Array.getElem?_eq_some_iff.1 hbx).1; simp; omega) (fun e => hne.out e.symm)).trans ((Below.heap_alloc _ _ _ (Array.getElem?_eq_some_iff.1 hbx).1).trans hbx); have d1 := hbx2.cells.2.1)
     have hkp2 : Kept t w v' (k + 1) w2 := ⟨by rw [hrow1.out]; exact hown,below_grown (hkp.out.below.alloc hkp.out.below.size _) (hkp.out.row.alloc _) (Nat.le_refl _) (Nat.le_refl _) hgrow⟩
     go_roundw
     case rel => exact ⟨k + 1,hkn,by rw [hq.out],hkp2⟩
     case measure => simp [intOf]; omega
  ·have hkn : k = num t := by
    by_cases h : k < num t
    ·exact absurd (num_lt h) hlt
    ·omega
   have f1 : ¬ (st t k : Int) < t.size := by omega
   subst hkn
   go_wp2_with fail
   go_ret2
   exact ⟨_,rfl,hkp.out.row,hkp.out.below⟩
end Go.Proofs.YthcphnifnfnceaaGreatDoor
