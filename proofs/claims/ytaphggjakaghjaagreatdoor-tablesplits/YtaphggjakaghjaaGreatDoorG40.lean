/-
  What is proved here: a row is cut at one of its splits, and joined again: two drawn regions.
  What is proved here: that each part holds its lines, that the columns are no wider than the table: two drawn regions.
-/
import Derived.Test.YtaphggjakaghjaaGreatDoorG39
namespace Go.Proofs.YtaphggjakaghjaaGreatDoor
open Go.RowKit Go.Shelf
set_option maxRecDepth 100000
set_option maxHeartbeats 4000000

def opW35 (ps : String) : Array Oper := #[⟨some 170,.move (.tmp 6),27,ps,#[],none⟩,⟨some 171,.move (.tmp 8),3,ps,#[],none⟩,⟨some 172,.indexAddr 27 (.tmp 170) (.tmp 171),0,ps,#[⟨0,.data⟩,⟨1,.data⟩],none⟩,⟨some 173,.load 39 (.tmp 172),39,ps,#[⟨2,.data⟩],none⟩,⟨some 174,.move (.tmp 16),3,ps,#[],none⟩,⟨some 175,.move (.tmp 6),27,ps,#[],none⟩,⟨some 176,.move (.tmp 8),3,ps,#[],none⟩,⟨some 177,.indexAddr 27 (.tmp 175) (.tmp 176),0,ps,#[⟨5,.data⟩,⟨6,.data⟩],none⟩,⟨some 178,.fieldAddr 39 (.tmp 177) 0,0,ps,#[⟨7,.data⟩],none⟩,⟨some 179,.load 3 (.tmp 178),3,ps,#[⟨8,.data⟩],none⟩,⟨some 180,.call ⟨.value (.func 21),#[.tmp 173,.tmp 174,.tmp 179],#[39,3,3]⟩,48,ps,#[⟨3,.data⟩,⟨4,.data⟩,⟨9,.data⟩],none⟩,⟨some 169,.move (.tmp 180),48,ps,#[⟨10,.data⟩],none⟩,⟨some 181,.extract (.tmp 169) 0,37,ps,#[⟨11,.data⟩],none⟩,⟨some 182,.extract (.tmp 169) 1,28,ps,#[⟨11,.data⟩,⟨14,.gcOnly .lateStores⟩],none⟩,⟨some 19,.assign (.tmp 181),37,ps,#[⟨12,.data⟩,⟨10,.chain⟩,⟨0,.phase⟩,⟨1,.phase⟩,⟨2,.phase⟩,⟨3,.phase⟩,⟨4,.phase⟩,⟨5,.phase⟩,⟨6,.phase⟩,⟨7,.phase⟩,⟨8,.phase⟩,⟨9,.phase⟩,⟨10,.phase⟩,⟨11,.phase⟩,⟨12,.phase⟩,⟨13,.textOnly .lateStores⟩],none⟩,⟨some 20,.assign (.tmp 182),28,ps,#[⟨13,.data⟩,⟨14,.chain⟩,⟨0,.phase⟩,⟨1,.phase⟩,⟨2,.phase⟩,⟨3,.phase⟩,⟨4,.phase⟩,⟨5,.phase⟩,⟨6,.phase⟩,⟨7,.phase⟩,⟨8,.phase⟩,⟨9,.phase⟩,⟨10,.phase⟩,⟨11,.phase⟩,⟨12,.phase⟩,⟨13,.phase⟩,⟨14,.phase⟩],none⟩]

theorem sp_r35 (Q : Exit → Act → World → Prop) (hQ : ∀ c x (n : Nat) v w,Q (.panic c) (x.put (some n) v) w → Q (.panic c) x w) (id : Nat) (ps : String) (gu i N cap : Nat) (h y : Int) (sa : Option Addr) (sn sc T n : Nat) (H : Nat → World → Prop) {v0 v1 v2 v3 v4 v5 v7 v9 xa xb xc xd xe xf xh xi xj xk xl xm xn xo xp xq xr xt xu xv xw xx xy xz xA xB xC xD xE xF xG xH xI xJ xK xL xM xN xO xP xQ xR xS xT xU xV xW xX xY xZ ya yb yc yd ye yf yg yh yi yj yk yl ym yn yo yp yq yr yt yu yv yw yx yy yz yA yB yC yD yE yF yG yH yI yJ yK yL yM yN yO yP yQ yR yS yT yU yV yW yX yY yZ za zb zc zd ze zf zg zh zi zj zk zl zm zn zo zp zq zr zs zt zu zv zw zx zy zz zA zB zC zD zE zF zG zH zI zJ zK zL zM zN zO zP zQ zR zS zT zU zV zW zX zY zZ qa qb qc qd qf qg qh qi qj qk ql qm qn qo qp qq qr qs qt qu qv qw qx qy qz qA qB qC qD qE qF qG qH qI qJ qK qL qM qN qO qP qQ qR qS qT qU qV qW qX qY qZ ja jb jc jd je jf jg jh ji jj jk jl jm jn jo jp jq jr js jt : Value} (W : World)
  (hiN : (i : Int) < (N : Int)) (hR : RoF gu i h sa sn sc T n W)
  (hN : ∀ W0,Below W.heap.size W W0 → Calls Tryz.prog 21 #[.agg #[.int .i64 h,.slice sa sn sc,.slice (some ⟨T,0,none⟩) n n],.int .i64 y,.int .i64 h] W0 fun e w' => ∃ g,e = .returned (.tuple #[.slice (some ⟨g,0,none⟩) n n,.int .i64 0]) ∧ H g w' ∧ Below W.heap.size W w')
  (hK : ∀ g W',H g W' → Below W.heap.size W W' → Q .normal { tmps := #[v0,v1,v2,v3,v4,v5,.slice (some ⟨gu,0,none⟩) N cap,v7,.int .i64 (i : Nat),v9,xa,xb,xc,xd,xe,xf,.int .i64 y,xh,xi,.slice (some ⟨g,0,none⟩) n n,.int .i64 0,xl,xm,xn,xo,xp,xq,xr,xt,xu,xv,xw,xx,xy,xz,xA,xB,xC,xD,xE,xF,xG,xH,xI,xJ,xK,xL,xM,xN,xO,xP,xQ,xR,xS,xT,xU,xV,xW,xX,xY,xZ,ya,yb,yc,yd,ye,yf,yg,yh,yi,yj,yk,yl,ym,yn,yo,yp,yq,yr,yt,yu,yv,yw,yx,yy,yz,yA,yB,yC,yD,yE,yF,yG,yH,yI,yJ,yK,yL,yM,yN,yO,yP,yQ,yR,yS,yT,yU,yV,yW,yX,yY,yZ,za,zb,zc,zd,ze,zf,zg,zh,zi,zj,zk,zl,zm,zn,zo,zp,zq,zr,zs,zt,zu,zv,zw,zx,zy,zz,zA,zB,zC,zD,zE,zF,zG,zH,zI,zJ,zK,zL,zM,zN,zO,zP,zQ,zR,zS,zT,zU,zV,zW,zX,zY,zZ,qa,qb,qc,qd,qf,.tuple #[.slice (some ⟨g,0,none⟩) n n,.int .i64 0],.slice (some ⟨gu,0,none⟩) N cap,.int .i64 (i : Nat),.pointer (some ⟨gu,i * 3,none⟩),.agg #[.int .i64 h,.slice sa sn sc,.slice (some ⟨T,0,none⟩) n n],.int .i64 y,.slice (some ⟨gu,0,none⟩) N cap,.int .i64 (i : Nat),.pointer (some ⟨gu,i * 3,none⟩),.pointer (some ⟨gu,i * 3,none⟩),.int .i64 h,.tuple #[.slice (some ⟨g,0,none⟩) n n,.int .i64 0],.slice (some ⟨g,0,none⟩) n n,.int .i64 0,qu,qv,qw,qx,qy,qz,qA,qB,qC,qD,qE,qF,qG,qH,qI,qJ,qK,qL,qM,qN,qO,qP,qQ,qR,qS,qT,qU,qV,qW,qX,qY,qZ,ja,jb,jc,jd,je,jf,jg,jh,ji,jj,jk,jl,jm,jn,jo,jp,jq,jr,js,jt],defers := [] } W') :
  (Code.region id (opW35 ps) true).wp Tryz.prog Q { tmps := #[v0,v1,v2,v3,v4,v5,.slice (some ⟨gu,0,none⟩) N cap,v7,.int .i64 (i : Nat),v9,xa,xb,xc,xd,xe,xf,.int .i64 y,xh,xi,xj,xk,xl,xm,xn,xo,xp,xq,xr,xt,xu,xv,xw,xx,xy,xz,xA,xB,xC,xD,xE,xF,xG,xH,xI,xJ,xK,xL,xM,xN,xO,xP,xQ,xR,xS,xT,xU,xV,xW,xX,xY,xZ,ya,yb,yc,yd,ye,yf,yg,yh,yi,yj,yk,yl,ym,yn,yo,yp,yq,yr,yt,yu,yv,yw,yx,yy,yz,yA,yB,yC,yD,yE,yF,yG,yH,yI,yJ,yK,yL,yM,yN,yO,yP,yQ,yR,yS,yT,yU,yV,yW,yX,yY,yZ,za,zb,zc,zd,ze,zf,zg,zh,zi,zj,zk,zl,zm,zn,zo,zp,zq,zr,zs,zt,zu,zv,zw,zx,zy,zz,zA,zB,zC,zD,zE,zF,zG,zH,zI,zJ,zK,zL,zM,zN,zO,zP,zQ,zR,zS,zT,zU,zV,zW,zX,zY,zZ,qa,qb,qc,qd,qf,qg,qh,qi,qj,qk,ql,qm,qn,qo,qp,qq,qr,qs,qt,qu,qv,qw,qx,qy,qz,qA,qB,qC,qD,qE,qF,qG,qH,qI,qJ,qK,qL,qM,qN,qO,qP,qQ,qR,qS,qT,qU,qV,qW,qX,qY,qZ,ja,jb,jc,jd,je,jf,jg,jh,ji,jj,jk,jl,jm,jn,jo,jp,jq,jr,js,jt],defers := [] } W := by
 have hS : Below W.heap.size W W.drew := below_drew W
 refine wp_region_held (S := fun w => Below W.heap.size W w) (by kernel_rfl) ?_
 change wpAnyH _ _ _ _ _ 16 _ _ (World.drew W)
 generalize W.drew = V at hS ⊢
 unfold opW35
 refine wpAnyH_take (i := 0) (v := .slice (some ⟨gu,0,none⟩) N cap) rfl (by kernel_rfl) (by kernel_rfl) (by kernel_rfl) (fun c x w => hQ c x _ _ w) (Or.inl ⟨by rfl,?y0⟩) hS ?_
 case y0 => (intro w' hw'; go_simp)
 go_simp
 refine wpAnyH_take (i := 1) (v := .int .i64 (i : Nat)) rfl (by kernel_rfl) (by kernel_rfl) (by kernel_rfl) (fun c x w => hQ c x _ _ w) (Or.inl ⟨by rfl,?y1⟩) hS ?_
 case y1 => (intro w' hw'; go_simp)
 go_simp
 refine wpAnyH_take (i := 2) (v := .pointer (some ⟨gu,i * 3,none⟩)) rfl (by kernel_rfl) (by kernel_rfl) (by kernel_rfl) (fun c x w => hQ c x _ _ w) (Or.inl ⟨by rfl,?y2⟩) hS ?_
 case y2 => (intro w' hw'; go_simp)
 go_simp
 refine wpAnyH_take (i := 3) (v := .agg #[.int .i64 h,.slice sa sn sc,.slice (some ⟨T,0,none⟩) n n]) rfl (by kernel_rfl) (by kernel_rfl) (by kernel_rfl) (fun c x w => hQ c x _ _ w) (Or.inl ⟨by rfl,?y3⟩) hS ?_
 case y3 => (intro w' hw'; exact load39m (hR.below hw').range rfl rfl)
 go_simp
 refine wpAnyH_take (i := 4) (v := .int .i64 y) rfl (by kernel_rfl) (by kernel_rfl) (by kernel_rfl) (fun c x w => hQ c x _ _ w) (Or.inl ⟨by rfl,?y4⟩) hS ?_
 case y4 => (intro w' hw'; go_simp)
 go_simp
 refine wpAnyH_take (i := 5) (v := .slice (some ⟨gu,0,none⟩) N cap) rfl (by kernel_rfl) (by kernel_rfl) (by kernel_rfl) (fun c x w => hQ c x _ _ w) (Or.inl ⟨by rfl,?y5⟩) hS ?_
 case y5 => (intro w' hw'; go_simp)
 go_simp
 refine wpAnyH_take (i := 6) (v := .int .i64 (i : Nat)) rfl (by kernel_rfl) (by kernel_rfl) (by kernel_rfl) (fun c x w => hQ c x _ _ w) (Or.inl ⟨by rfl,?y6⟩) hS ?_
 case y6 => (intro w' hw'; go_simp)
 go_simp
 refine wpAnyH_take (i := 7) (v := .pointer (some ⟨gu,i * 3,none⟩)) rfl (by kernel_rfl) (by kernel_rfl) (by kernel_rfl) (fun c x w => hQ c x _ _ w) (Or.inl ⟨by rfl,?y7⟩) hS ?_
 case y7 => (intro w' hw'; go_simp)
 go_simp
 refine wpAnyH_take (i := 8) (v := .pointer (some ⟨gu,i * 3,none⟩)) rfl (by kernel_rfl) (by kernel_rfl) (by kernel_rfl) (fun c x w => hQ c x _ _ w) (Or.inl ⟨by rfl,?y8⟩) hS ?_
 case y8 => (intro w' hw'; go_simp)
 go_simp
 refine wpAnyH_take (i := 9) (v := .int .i64 h) rfl (by kernel_rfl) (by kernel_rfl) (by kernel_rfl) (fun c x w => hQ c x _ _ w) (Or.inl ⟨by rfl,?y9⟩) hS ?_
 case y9 => (intro w' hw'; have r0 := (hR.below hw').c0; go_simp)
 go_simp
 refine want_h (i := 10) (by kernel_rfl) rfl (by kernel_rfl) fun K hK' => ?_
 go_simp
 refine (hN _ hS).mono ?_
 rintro e w1 ⟨g,rfl,hH,hb1⟩
 refine hK' _ _ hb1 ?_
 clear hK' K hS
 go_simp
 refine wpAnyH_take (i := 11) (v := .tuple #[.slice (some ⟨g,0,none⟩) n n,.int .i64 0]) rfl (by kernel_rfl) (by kernel_rfl) (by kernel_rfl) (fun c x w => hQ c x _ _ w) (Or.inl ⟨by rfl,?y11⟩) hb1 ?_
 case y11 => (intro w' hw'; go_simp)
 go_simp
 refine wpAnyH_take (i := 12) (v := .slice (some ⟨g,0,none⟩) n n) rfl (by kernel_rfl) (by kernel_rfl) (by kernel_rfl) (fun c x w => hQ c x _ _ w) (Or.inl ⟨by rfl,?y12⟩) hb1 ?_
 case y12 => (intro w' hw'; go_simp)
 go_simp
 refine wpAnyH_take (i := 13) (v := .int .i64 0) rfl (by kernel_rfl) (by kernel_rfl) (by kernel_rfl) (fun c x w => hQ c x _ _ w) (Or.inl ⟨by rfl,?y13⟩) hb1 ?_
 case y13 => (intro w' hw'; go_simp)
 go_simp
 refine wpAnyH_take (i := 14) (v := .slice (some ⟨g,0,none⟩) n n) rfl (by kernel_rfl) (by kernel_rfl) (by kernel_rfl) (fun c x w => hQ c x _ _ w) (Or.inl ⟨by rfl,?y14⟩) hb1 ?_
 case y14 => (intro w' hw'; go_simp)
 go_simp
 refine wpAnyH_take (i := 15) (v := .int .i64 0) rfl (by kernel_rfl) (by kernel_rfl) (by kernel_rfl) (fun c x w => hQ c x _ _ w) (Or.inl ⟨by rfl,?y15⟩) hb1 ?_
 case y15 => (intro w' hw'; go_simp)
 go_simp
 exact wpAnyH_done (by kernel_rfl) (hK g _ hH hb1) _
def opW36 (ps : String) : Array Oper := #[⟨some 183,.move (.tmp 18),28,ps,#[],none⟩,⟨some 184,.binOp .neq 28 (.tmp 183) (.const (.int .i64 0)) 28,4,ps,#[⟨0,.data⟩],none⟩,⟨some 185,.move (.tmp 184),4,ps,#[⟨1,.data⟩],none⟩,⟨some 186,.move (.tmp 20),28,ps,#[⟨2,.guard⟩],some (2,false)⟩,⟨some 187,.binOp .neq 28 (.tmp 186) (.const (.int .i64 0)) 28,4,ps,#[⟨3,.data⟩,⟨2,.guard⟩],some (2,false)⟩,⟨some 188,.pick (.tmp 185) (.const (.bool true)) (.tmp 187),4,ps,#[⟨2,.data⟩,⟨4,.data⟩],none⟩,⟨some 189,.move (.tmp 188),4,ps,#[⟨5,.data⟩,⟨2,.chain⟩],none⟩,⟨some 190,.move (.tmp 17),37,ps,#[⟨6,.guard⟩],some (6,false)⟩,⟨some 191,.move (.tmp 19),37,ps,#[⟨6,.guard⟩],some (6,false)⟩,⟨some 192,.call ⟨.value (.func 25),#[.tmp 190,.tmp 191],#[37,37]⟩,37,ps,#[⟨7,.data⟩,⟨8,.data⟩,⟨6,.chain⟩,⟨6,.guard⟩],some (6,false)⟩,⟨some 193,.move (.tmp 6),27,ps,#[⟨6,.guard⟩],some (6,false)⟩,⟨some 194,.move (.tmp 8),3,ps,#[⟨6,.guard⟩],some (6,false)⟩,⟨some 195,.indexAddr 27 (.tmp 193) (.tmp 194),0,ps,#[⟨10,.data⟩,⟨11,.data⟩,⟨6,.guard⟩],some (6,false)⟩,⟨some 196,.fieldAddr 39 (.tmp 195) 2,0,ps,#[⟨12,.data⟩,⟨6,.guard⟩],some (6,false)⟩,⟨some 197,.load 37 (.tmp 196),37,ps,#[⟨13,.data⟩,⟨6,.guard⟩],some (6,false)⟩,⟨some 198,.call ⟨.value (.func 23),#[.tmp 192,.tmp 197],#[37,37]⟩,4,ps,#[⟨9,.data⟩,⟨14,.data⟩,⟨9,.chain⟩,⟨6,.guard⟩],some (6,false)⟩,⟨some 199,.unOp .not 4 (.tmp 198),4,ps,#[⟨15,.data⟩,⟨6,.guard⟩],some (6,false)⟩,⟨some 200,.pick (.tmp 189) (.const (.bool true)) (.tmp 199),4,ps,#[⟨6,.data⟩,⟨16,.data⟩],none⟩]

theorem sp_r36 (Q : Exit → Act → World → Prop) (hQ : ∀ c x (n : Nat) v w,Q (.panic c) (x.put (some n) v) w → Q (.panic c) x w) (id : Nat) (ps : String) (gu i N cap : Nat) (h : Int) (sa : Option Addr) (sn sc T n : Nat) (va vb : Value) (H : Value → World → Prop) {v0 v1 v2 v3 v4 v5 v7 v9 xa xb xc xd xe xf xg xl xm xn xo xp xq xr xt xu xv xw xx xy xz xA xB xC xD xE xF xG xH xI xJ xK xL xM xN xO xP xQ xR xS xT xU xV xW xX xY xZ ya yb yc yd ye yf yg yh yi yj yk yl ym yn yo yp yq yr yt yu yv yw yx yy yz yA yB yC yD yE yF yG yH yI yJ yK yL yM yN yO yP yQ yR yS yT yU yV yW yX yY yZ za zb zc zd ze zf zg zh zi zj zk zl zm zn zo zp zq zr zs zt zu zv zw zx zy zz zA zB zC zD zE zF zG zH zI zJ zK zL zM zN zO zP zQ zR zS zT zU zV zW zX zY zZ qa qb qc qd qf qg qh qi qj qk ql qm qn qo qp qq qr qs qt qu qv qw qx qy qz qA qB qC qD qE qF qG qH qI qJ qK qL qM qN qO qP qQ qR qS qT qU qV qW qX qY qZ ja jb jc jd je jf jg jh ji jj jk jl jm jn jo jp jq jr js jt : Value} (W : World)
  (hiN : (i : Int) < (N : Int)) (hR : RoF gu i h sa sn sc T n W)
  (hJ : ∀ W0,Below W.heap.size W W0 → Calls Tryz.prog 25 #[va,vb] W0 fun e w' => ∃ v,e = .returned v ∧ H v w' ∧ Below W.heap.size W w')
  (hS2 : ∀ v W0,H v W0 → Below W.heap.size W W0 → Calls Tryz.prog 23 #[v,.slice (some ⟨T,0,none⟩) n n] W0 fun e w' => e = .returned (.bool true) ∧ Below W.heap.size W w')
  (hK : ∀ vj W',Below W.heap.size W W' → Q .normal { tmps := #[v0,v1,v2,v3,v4,v5,.slice (some ⟨gu,0,none⟩) N cap,v7,.int .i64 (i : Nat),v9,xa,xb,xc,xd,xe,xf,xg,va,.int .i64 0,vb,.int .i64 0,xl,xm,xn,xo,xp,xq,xr,xt,xu,xv,xw,xx,xy,xz,xA,xB,xC,xD,xE,xF,xG,xH,xI,xJ,xK,xL,xM,xN,xO,xP,xQ,xR,xS,xT,xU,xV,xW,xX,xY,xZ,ya,yb,yc,yd,ye,yf,yg,yh,yi,yj,yk,yl,ym,yn,yo,yp,yq,yr,yt,yu,yv,yw,yx,yy,yz,yA,yB,yC,yD,yE,yF,yG,yH,yI,yJ,yK,yL,yM,yN,yO,yP,yQ,yR,yS,yT,yU,yV,yW,yX,yY,yZ,za,zb,zc,zd,ze,zf,zg,zh,zi,zj,zk,zl,zm,zn,zo,zp,zq,zr,zs,zt,zu,zv,zw,zx,zy,zz,zA,zB,zC,zD,zE,zF,zG,zH,zI,zJ,zK,zL,zM,zN,zO,zP,zQ,zR,zS,zT,zU,zV,zW,zX,zY,zZ,qa,qb,qc,qd,qf,qg,qh,qi,qj,qk,ql,qm,qn,qo,qp,qq,qr,qs,qt,.int .i64 0,.bool false,.bool false,.int .i64 0,.bool false,.bool false,.bool false,va,vb,vj,.slice (some ⟨gu,0,none⟩) N cap,.int .i64 (i : Nat),.pointer (some ⟨gu,i * 3,none⟩),.pointer (some ⟨gu,i * 3 + 2,none⟩),.slice (some ⟨T,0,none⟩) n n,.bool true,.bool false,.bool false,qM,qN,qO,qP,qQ,qR,qS,qT,qU,qV,qW,qX,qY,qZ,ja,jb,jc,jd,je,jf,jg,jh,ji,jj,jk,jl,jm,jn,jo,jp,jq,jr,js,jt],defers := [] } W') :
  (Code.region id (opW36 ps) true).wp Tryz.prog Q { tmps := #[v0,v1,v2,v3,v4,v5,.slice (some ⟨gu,0,none⟩) N cap,v7,.int .i64 (i : Nat),v9,xa,xb,xc,xd,xe,xf,xg,va,.int .i64 0,vb,.int .i64 0,xl,xm,xn,xo,xp,xq,xr,xt,xu,xv,xw,xx,xy,xz,xA,xB,xC,xD,xE,xF,xG,xH,xI,xJ,xK,xL,xM,xN,xO,xP,xQ,xR,xS,xT,xU,xV,xW,xX,xY,xZ,ya,yb,yc,yd,ye,yf,yg,yh,yi,yj,yk,yl,ym,yn,yo,yp,yq,yr,yt,yu,yv,yw,yx,yy,yz,yA,yB,yC,yD,yE,yF,yG,yH,yI,yJ,yK,yL,yM,yN,yO,yP,yQ,yR,yS,yT,yU,yV,yW,yX,yY,yZ,za,zb,zc,zd,ze,zf,zg,zh,zi,zj,zk,zl,zm,zn,zo,zp,zq,zr,zs,zt,zu,zv,zw,zx,zy,zz,zA,zB,zC,zD,zE,zF,zG,zH,zI,zJ,zK,zL,zM,zN,zO,zP,zQ,zR,zS,zT,zU,zV,zW,zX,zY,zZ,qa,qb,qc,qd,qf,qg,qh,qi,qj,qk,ql,qm,qn,qo,qp,qq,qr,qs,qt,qu,qv,qw,qx,qy,qz,qA,qB,qC,qD,qE,qF,qG,qH,qI,qJ,qK,qL,qM,qN,qO,qP,qQ,qR,qS,qT,qU,qV,qW,qX,qY,qZ,ja,jb,jc,jd,je,jf,jg,jh,ji,jj,jk,jl,jm,jn,jo,jp,jq,jr,js,jt],defers := [] } W := by
 have hS : Below W.heap.size W W.drew := below_drew W
 refine wp_region_held (S := fun w => Below W.heap.size W w) (by kernel_rfl) ?_
 change wpAnyH _ _ _ _ _ 18 _ _ (World.drew W)
 generalize W.drew = V at hS ⊢
 unfold opW36
 refine wpAnyH_take (i := 0) (v := .int .i64 0) rfl (by kernel_rfl) (by kernel_rfl) (by kernel_rfl) (fun c x w => hQ c x _ _ w) (Or.inl ⟨by rfl,?y0⟩) hS ?_
 case y0 => (intro w' hw'; go_simp)
 go_simp
 refine wpAnyH_take (i := 1) (v := .bool false) rfl (by kernel_rfl) (by kernel_rfl) (by kernel_rfl) (fun c x w => hQ c x _ _ w) (Or.inl ⟨by rfl,?y1⟩) hS ?_
 case y1 => (intro w' hw'; go_simp)
 go_simp
 refine wpAnyH_take (i := 2) (v := .bool false) rfl (by kernel_rfl) (by kernel_rfl) (by kernel_rfl) (fun c x w => hQ c x _ _ w) (Or.inl ⟨by rfl,?y2⟩) hS ?_
 case y2 => (intro w' hw'; go_simp)
 go_simp
 refine wpAnyH_take (i := 3) (v := .int .i64 0) rfl (by kernel_rfl) (by kernel_rfl) (by kernel_rfl) (fun c x w => hQ c x _ _ w) (Or.inl ⟨by rfl,?y3⟩) hS ?_
 case y3 => (intro w' hw'; go_simp)
 go_simp
 refine wpAnyH_take (i := 4) (v := .bool false) rfl (by kernel_rfl) (by kernel_rfl) (by kernel_rfl) (fun c x w => hQ c x _ _ w) (Or.inl ⟨by rfl,?y4⟩) hS ?_
 case y4 => (intro w' hw'; go_simp)
 go_simp
 refine wpAnyH_take (i := 5) (v := .bool false) rfl (by kernel_rfl) (by kernel_rfl) (by kernel_rfl) (fun c x w => hQ c x _ _ w) (Or.inl ⟨by rfl,?y5⟩) hS ?_
 case y5 => (intro w' hw'; go_simp)
 go_simp
 refine wpAnyH_take (i := 6) (v := .bool false) rfl (by kernel_rfl) (by kernel_rfl) (by kernel_rfl) (fun c x w => hQ c x _ _ w) (Or.inl ⟨by rfl,?y6⟩) hS ?_
 case y6 => (intro w' hw'; go_simp)
 go_simp
 refine wpAnyH_take (i := 7) (v := va) rfl (by kernel_rfl) (by kernel_rfl) (by kernel_rfl) (fun c x w => hQ c x _ _ w) (Or.inl ⟨by rfl,?y7⟩) hS ?_
 case y7 => (intro w' hw'; go_simp)
 go_simp
 refine wpAnyH_take (i := 8) (v := vb) rfl (by kernel_rfl) (by kernel_rfl) (by kernel_rfl) (fun c x w => hQ c x _ _ w) (Or.inl ⟨by rfl,?y8⟩) hS ?_
 case y8 => (intro w' hw'; go_simp)
 go_simp
 refine wpAnyH_take (i := 10) (v := .slice (some ⟨gu,0,none⟩) N cap) rfl (by kernel_rfl) (by kernel_rfl) (by kernel_rfl) (fun c x w => hQ c x _ _ w) (Or.inl ⟨by rfl,?y10⟩) hS ?_
 case y10 => (intro w' hw'; go_simp)
 go_simp
 refine wpAnyH_take (i := 11) (v := .int .i64 (i : Nat)) rfl (by kernel_rfl) (by kernel_rfl) (by kernel_rfl) (fun c x w => hQ c x _ _ w) (Or.inl ⟨by rfl,?y11⟩) hS ?_
 case y11 => (intro w' hw'; go_simp)
 go_simp
 refine wpAnyH_take (i := 12) (v := .pointer (some ⟨gu,i * 3,none⟩)) rfl (by kernel_rfl) (by kernel_rfl) (by kernel_rfl) (fun c x w => hQ c x _ _ w) (Or.inl ⟨by rfl,?y12⟩) hS ?_
 case y12 => (intro w' hw'; go_simp)
 go_simp
 refine wpAnyH_take (i := 13) (v := .pointer (some ⟨gu,i * 3 + 2,none⟩)) rfl (by kernel_rfl) (by kernel_rfl) (by kernel_rfl) (fun c x w => hQ c x _ _ w) (Or.inl ⟨by rfl,?y13⟩) hS ?_
 case y13 => (intro w' hw'; go_simp)
 go_simp
 refine wpAnyH_take (i := 14) (v := .slice (some ⟨T,0,none⟩) n n) rfl (by kernel_rfl) (by kernel_rfl) (by kernel_rfl) (fun c x w => hQ c x _ _ w) (Or.inl ⟨by rfl,?y14⟩) hS ?_
 case y14 => (intro w' hw'; have r2 := (hR.below hw').c2; go_simp)
 go_simp
 refine want_h (i := 9) (by kernel_rfl) rfl (by kernel_rfl) fun K hK' => ?_
 go_simp
 refine (hJ _ hS).mono ?_
 rintro e w1 ⟨vj,rfl,hH,hb1⟩
 refine hK' _ _ hb1 ?_
 clear hK' K hS
 go_simp
 refine want_h (i := 15) (by kernel_rfl) rfl (by kernel_rfl) fun K hK' => ?_
 go_simp
 refine (hS2 vj w1 hH hb1).mono ?_
 rintro e w2 ⟨rfl,hb2⟩
 refine hK' _ _ hb2 ?_
 clear hK' K hb1 hH
 go_simp
 refine wpAnyH_take (i := 16) (v := .bool false) rfl (by kernel_rfl) (by kernel_rfl) (by kernel_rfl) (fun c x w => hQ c x _ _ w) (Or.inl ⟨by rfl,?y16⟩) hb2 ?_
 case y16 => (intro w' hw'; go_simp)
 go_simp
 refine wpAnyH_take (i := 17) (v := .bool false) rfl (by kernel_rfl) (by kernel_rfl) (by kernel_rfl) (fun c x w => hQ c x _ _ w) (Or.inl ⟨by rfl,?y17⟩) hb2 ?_
 case y17 => (intro w' hw'; go_simp)
 go_simp
 exact wpAnyH_done (by kernel_rfl) (hK _ _ hb2) _
end Go.Proofs.YtaphggjakaghjaaGreatDoor

namespace Go.Proofs.YtaphggjakaghjaaGreatDoor
open Go.RowKit Go.Shelf
set_option maxRecDepth 100000
set_option maxHeartbeats 4000000

def opsp_r41 (ps : String) : Array Oper := #[⟨some 207,.move (.tmp 17),37,ps,#[],none⟩,⟨some 208,.move (.tmp 21),3,ps,#[],none⟩,⟨some 209,.indexAddr 37 (.tmp 207) (.tmp 208),0,ps,#[⟨0,.data⟩,⟨1,.data⟩],none⟩,⟨some 210,.fieldAddr 46 (.tmp 209) 2,0,ps,#[⟨2,.data⟩],none⟩,⟨some 211,.load 44 (.tmp 210),44,ps,#[⟨3,.data⟩],none⟩,⟨some 212,.call ⟨.builtin .len,#[.tmp 211],#[44]⟩,3,ps,#[⟨4,.data⟩],none⟩,⟨some 213,.binOp .mul 3 (.const (.int .i64 10)) (.tmp 212) 3,3,ps,#[⟨5,.data⟩],none⟩,⟨some 214,.binOp .add 3 (.const (.int .i64 2)) (.tmp 213) 3,3,ps,#[⟨6,.data⟩],none⟩,⟨some 215,.move (.tmp 16),3,ps,#[],none⟩,⟨some 216,.binOp .gtr 3 (.tmp 214) (.tmp 215) 3,4,ps,#[⟨7,.data⟩,⟨8,.data⟩],none⟩,⟨some 217,.move (.tmp 216),4,ps,#[⟨9,.data⟩],none⟩,⟨some 218,.move (.tmp 19),37,ps,#[⟨10,.guard⟩],some (10,false)⟩,⟨some 219,.move (.tmp 21),3,ps,#[⟨10,.guard⟩],some (10,false)⟩,⟨some 220,.indexAddr 37 (.tmp 218) (.tmp 219),0,ps,#[⟨11,.data⟩,⟨12,.data⟩,⟨10,.guard⟩],some (10,false)⟩,⟨some 221,.fieldAddr 46 (.tmp 220) 2,0,ps,#[⟨13,.data⟩,⟨10,.guard⟩],some (10,false)⟩,⟨some 222,.load 44 (.tmp 221),44,ps,#[⟨14,.data⟩,⟨10,.guard⟩],some (10,false)⟩,⟨some 223,.call ⟨.builtin .len,#[.tmp 222],#[44]⟩,3,ps,#[⟨15,.data⟩,⟨10,.guard⟩],some (10,false)⟩,⟨some 224,.binOp .mul 3 (.const (.int .i64 10)) (.tmp 223) 3,3,ps,#[⟨16,.data⟩,⟨10,.guard⟩],some (10,false)⟩,⟨some 225,.move (.tmp 6),27,ps,#[⟨10,.guard⟩],some (10,false)⟩,⟨some 226,.move (.tmp 8),3,ps,#[⟨10,.guard⟩],some (10,false)⟩,⟨some 227,.indexAddr 27 (.tmp 225) (.tmp 226),0,ps,#[⟨18,.data⟩,⟨19,.data⟩,⟨10,.guard⟩],some (10,false)⟩,⟨some 228,.fieldAddr 39 (.tmp 227) 0,0,ps,#[⟨20,.data⟩,⟨10,.guard⟩],some (10,false)⟩,⟨some 229,.load 3 (.tmp 228),3,ps,#[⟨21,.data⟩,⟨10,.guard⟩],some (10,false)⟩,⟨some 230,.move (.tmp 16),3,ps,#[⟨10,.guard⟩],some (10,false)⟩,⟨some 231,.binOp .sub 3 (.tmp 229) (.tmp 230) 3,3,ps,#[⟨22,.data⟩,⟨23,.data⟩,⟨10,.guard⟩],some (10,false)⟩,⟨some 232,.binOp .gtr 3 (.tmp 224) (.tmp 231) 3,4,ps,#[⟨17,.data⟩,⟨24,.data⟩,⟨10,.guard⟩],some (10,false)⟩,⟨some 233,.pick (.tmp 217) (.const (.bool true)) (.tmp 232),4,ps,#[⟨10,.data⟩,⟨25,.data⟩],none⟩]

theorem sp_r41 (Q : Exit → Act → World → Prop) (hQ : ∀ c x (n : Nat) v w,Q (.panic c) (x.put (some n) v) w → Q (.panic c) x w) (id : Nat) (ps : String) (gu i N cap ga gb n c p1 p2 k1 k2 : Nat) (h Y : Int) (a1 a2 : Option Addr) {v0 v1 v2 v3 v4 v5 v7 v9 xa xb xc xd xe xf xi xk xm xn xo xp xq xr xt xu xv xw xx xy xz xA xB xC xD xE xF xG xH xI xJ xK xL xM xN xO xP xQ xR xS xT xU xV xW xX xY xZ ya yb yc yd ye yf yg yh yi yj yk yl ym yn yo yp yq yr yt yu yv yw yx yy yz yA yB yC yD yE yF yG yH yI yJ yK yL yM yN yO yP yQ yR yS yT yU yV yW yX yY yZ za zb zc zd ze zf zg zh zi zj zk zl zm zn zo zp zq zr zs zt zu zv zw zx zy zz zA zB zC zD zE zF zG zH zI zJ zK zL zM zN zO zP zQ zR zS zT zU zV zW zX zY zZ qa qb qc qd qf qg qh qi qj qk ql qm qn qo qp qq qr qs qt qu qv qw qx qy qz qA qB qC qD qE qF qG qH qI qJ qK qL qM qN qO qP qQ qR qS qT qU qV qW qX qY qZ ja jb jc jd je jf jg jh ji jj jk jl jm jn jo jp jq jr js jt : Value} (W : World)
  (hiN : (i : Int) < (N : Int)) (hcn : (c : Int) < (n : Int)) (ha : ga < W.heap.size) (hb : gb < W.heap.size) (hu : gu < W.heap.size)
  (hm1 : W.cell? ⟨ga,c * 3 + 2,none⟩ = some (.slice a1 p1 k1)) (hm2 : W.cell? ⟨gb,c * 3 + 2,none⟩ = some (.slice a2 p2 k2)) (hr0 : W.cell? ⟨gu,i * 3,none⟩ = some (.int .i64 h))
  (hp1 : p1 ≤ 600) (hp2 : p2 ≤ 600) (hy : 0 ≤ Y ∧ Y ≤ 6000) (hh : 0 ≤ h ∧ h ≤ 6000) (g1 : ¬ Y < 2 + 10 * (p1 : Int)) (g2 : ¬ h - Y < 10 * (p2 : Int))
  (hK : ∀ W',Below W.heap.size W W' → Q .normal { tmps := #[v0,v1,v2,v3,v4,v5,.slice (some ⟨gu,0,none⟩) N cap,v7,.int .i64 (i : Nat),v9,xa,xb,xc,xd,xe,xf,.int .i64 Y,.slice (some ⟨ga,0,none⟩) n n,xi,.slice (some ⟨gb,0,none⟩) n n,xk,.int .i64 (c : Nat),xm,xn,xo,xp,xq,xr,xt,xu,xv,xw,xx,xy,xz,xA,xB,xC,xD,xE,xF,xG,xH,xI,xJ,xK,xL,xM,xN,xO,xP,xQ,xR,xS,xT,xU,xV,xW,xX,xY,xZ,ya,yb,yc,yd,ye,yf,yg,yh,yi,yj,yk,yl,ym,yn,yo,yp,yq,yr,yt,yu,yv,yw,yx,yy,yz,yA,yB,yC,yD,yE,yF,yG,yH,yI,yJ,yK,yL,yM,yN,yO,yP,yQ,yR,yS,yT,yU,yV,yW,yX,yY,yZ,za,zb,zc,zd,ze,zf,zg,zh,zi,zj,zk,zl,zm,zn,zo,zp,zq,zr,zs,zt,zu,zv,zw,zx,zy,zz,zA,zB,zC,zD,zE,zF,zG,zH,zI,zJ,zK,zL,zM,zN,zO,zP,zQ,zR,zS,zT,zU,zV,zW,zX,zY,zZ,qa,qb,qc,qd,qf,qg,qh,qi,qj,qk,ql,qm,qn,qo,qp,qq,qr,qs,qt,qu,qv,qw,qx,qy,qz,qA,qB,qC,qD,qE,qF,qG,qH,qI,qJ,qK,qL,qM,qN,qO,qP,qQ,qR,.slice (some ⟨ga,0,none⟩) n n,.int .i64 (c : Nat),.pointer (some ⟨ga,c * 3,none⟩),.pointer (some ⟨ga,c * 3 + 2,none⟩),.slice a1 p1 k1,.int .i64 (p1 : Nat),.int .i64 (10 * (p1 : Int)),.int .i64 (2 + 10 * (p1 : Int)),.int .i64 Y,.bool false,.bool false,.slice (some ⟨gb,0,none⟩) n n,.int .i64 (c : Nat),.pointer (some ⟨gb,c * 3,none⟩),.pointer (some ⟨gb,c * 3 + 2,none⟩),.slice a2 p2 k2,.int .i64 (p2 : Nat),.int .i64 (10 * (p2 : Int)),.slice (some ⟨gu,0,none⟩) N cap,.int .i64 (i : Nat),.pointer (some ⟨gu,i * 3,none⟩),.pointer (some ⟨gu,i * 3,none⟩),.int .i64 h,.int .i64 Y,.int .i64 (h - Y),.bool false,.bool false,jt],defers := [] } W') :
  (Code.region id (opsp_r41 ps) true).wp Tryz.prog Q { tmps := #[v0,v1,v2,v3,v4,v5,.slice (some ⟨gu,0,none⟩) N cap,v7,.int .i64 (i : Nat),v9,xa,xb,xc,xd,xe,xf,.int .i64 Y,.slice (some ⟨ga,0,none⟩) n n,xi,.slice (some ⟨gb,0,none⟩) n n,xk,.int .i64 (c : Nat),xm,xn,xo,xp,xq,xr,xt,xu,xv,xw,xx,xy,xz,xA,xB,xC,xD,xE,xF,xG,xH,xI,xJ,xK,xL,xM,xN,xO,xP,xQ,xR,xS,xT,xU,xV,xW,xX,xY,xZ,ya,yb,yc,yd,ye,yf,yg,yh,yi,yj,yk,yl,ym,yn,yo,yp,yq,yr,yt,yu,yv,yw,yx,yy,yz,yA,yB,yC,yD,yE,yF,yG,yH,yI,yJ,yK,yL,yM,yN,yO,yP,yQ,yR,yS,yT,yU,yV,yW,yX,yY,yZ,za,zb,zc,zd,ze,zf,zg,zh,zi,zj,zk,zl,zm,zn,zo,zp,zq,zr,zs,zt,zu,zv,zw,zx,zy,zz,zA,zB,zC,zD,zE,zF,zG,zH,zI,zJ,zK,zL,zM,zN,zO,zP,zQ,zR,zS,zT,zU,zV,zW,zX,zY,zZ,qa,qb,qc,qd,qf,qg,qh,qi,qj,qk,ql,qm,qn,qo,qp,qq,qr,qs,qt,qu,qv,qw,qx,qy,qz,qA,qB,qC,qD,qE,qF,qG,qH,qI,qJ,qK,qL,qM,qN,qO,qP,qQ,qR,qS,qT,qU,qV,qW,qX,qY,qZ,ja,jb,jc,jd,je,jf,jg,jh,ji,jj,jk,jl,jm,jn,jo,jp,jq,jr,js,jt],defers := [] } W := by
 have hS : Below W.heap.size W W.drew := below_drew W
 refine wp_region_held (S := fun w => Below W.heap.size W w) (by kernel_rfl) ?_
 change wpAnyH _ _ _ _ _ 27 _ _ (World.drew W)
 generalize W.drew = V at hS ⊢
 unfold opsp_r41
 refine wpAnyH_take (i := 0) (v := .slice (some ⟨ga,0,none⟩) n n) rfl (by kernel_rfl) (by kernel_rfl) (by kernel_rfl) (fun c x w => hQ c x _ _ w) (Or.inl ⟨by rfl,?y0⟩) hS ?_
 case y0 => (intro w' hw'; go_simp)
 go_simp
 refine wpAnyH_take (i := 1) (v := .int .i64 (c : Nat)) rfl (by kernel_rfl) (by kernel_rfl) (by kernel_rfl) (fun c x w => hQ c x _ _ w) (Or.inl ⟨by rfl,?y1⟩) hS ?_
 case y1 => (intro w' hw'; go_simp)
 go_simp
 refine wpAnyH_take (i := 2) (v := .pointer (some ⟨ga,c * 3,none⟩)) rfl (by kernel_rfl) (by kernel_rfl) (by kernel_rfl) (fun c x w => hQ c x _ _ w) (Or.inl ⟨by rfl,?y2⟩) hS ?_
 case y2 => (intro w' hw'; go_simp)
 go_simp
 refine wpAnyH_take (i := 3) (v := .pointer (some ⟨ga,c * 3 + 2,none⟩)) rfl (by kernel_rfl) (by kernel_rfl) (by kernel_rfl) (fun c x w => hQ c x _ _ w) (Or.inl ⟨by rfl,?y3⟩) hS ?_
 case y3 => (intro w' hw'; go_simp)
 go_simp
 refine wpAnyH_take (i := 4) (v := .slice a1 p1 k1) rfl (by kernel_rfl) (by kernel_rfl) (by kernel_rfl) (fun c x w => hQ c x _ _ w) (Or.inl ⟨by rfl,?y4⟩) hS ?_
 case y4 => (intro w' hw'; have m1 := (hw'.cell ha).trans hm1; go_simp)
 go_simp
 refine wpAnyH_take (i := 5) (v := .int .i64 (p1 : Nat)) rfl (by kernel_rfl) (by kernel_rfl) (by kernel_rfl) (fun c x w => hQ c x _ _ w) (Or.inl ⟨by rfl,?y5⟩) hS ?_
 case y5 => (intro w' hw'; go_simp)
 go_simp
 refine wpAnyH_take (i := 6) (v := .int .i64 (10 * (p1 : Int))) rfl (by kernel_rfl) (by kernel_rfl) (by kernel_rfl) (fun c x w => hQ c x _ _ w) (Or.inl ⟨by rfl,?y6⟩) hS ?_
 case y6 => (intro w' hw'; go_simp; rw [IntKind.wrap_i64]; omega)
 go_simp
 refine wpAnyH_take (i := 7) (v := .int .i64 (2 + 10 * (p1 : Int))) rfl (by kernel_rfl) (by kernel_rfl) (by kernel_rfl) (fun c x w => hQ c x _ _ w) (Or.inl ⟨by rfl,?y7⟩) hS ?_
 case y7 => (intro w' hw'; go_simp; rw [IntKind.wrap_i64]; omega)
 go_simp
 refine wpAnyH_take (i := 8) (v := .int .i64 Y) rfl (by kernel_rfl) (by kernel_rfl) (by kernel_rfl) (fun c x w => hQ c x _ _ w) (Or.inl ⟨by rfl,?y8⟩) hS ?_
 case y8 => (intro w' hw'; go_simp)
 go_simp
 refine wpAnyH_take (i := 9) (v := .bool false) rfl (by kernel_rfl) (by kernel_rfl) (by kernel_rfl) (fun c x w => hQ c x _ _ w) (Or.inl ⟨by rfl,?y9⟩) hS ?_
 case y9 => (intro w' hw'; go_simp)
 go_simp
 refine wpAnyH_take (i := 10) (v := .bool false) rfl (by kernel_rfl) (by kernel_rfl) (by kernel_rfl) (fun c x w => hQ c x _ _ w) (Or.inl ⟨by rfl,?y10⟩) hS ?_
 case y10 => (intro w' hw'; go_simp)
 go_simp
 refine wpAnyH_take (i := 11) (v := .slice (some ⟨gb,0,none⟩) n n) rfl (by kernel_rfl) (by kernel_rfl) (by kernel_rfl) (fun c x w => hQ c x _ _ w) (Or.inl ⟨by rfl,?y11⟩) hS ?_
 case y11 => (intro w' hw'; go_simp)
 go_simp
 refine wpAnyH_take (i := 12) (v := .int .i64 (c : Nat)) rfl (by kernel_rfl) (by kernel_rfl) (by kernel_rfl) (fun c x w => hQ c x _ _ w) (Or.inl ⟨by rfl,?y12⟩) hS ?_
 case y12 => (intro w' hw'; go_simp)
 go_simp
 refine wpAnyH_take (i := 13) (v := .pointer (some ⟨gb,c * 3,none⟩)) rfl (by kernel_rfl) (by kernel_rfl) (by kernel_rfl) (fun c x w => hQ c x _ _ w) (Or.inl ⟨by rfl,?y13⟩) hS ?_
 case y13 => (intro w' hw'; go_simp)
 go_simp
 refine wpAnyH_take (i := 14) (v := .pointer (some ⟨gb,c * 3 + 2,none⟩)) rfl (by kernel_rfl) (by kernel_rfl) (by kernel_rfl) (fun c x w => hQ c x _ _ w) (Or.inl ⟨by rfl,?y14⟩) hS ?_
 case y14 => (intro w' hw'; go_simp)
 go_simp
 refine wpAnyH_take (i := 15) (v := .slice a2 p2 k2) rfl (by kernel_rfl) (by kernel_rfl) (by kernel_rfl) (fun c x w => hQ c x _ _ w) (Or.inl ⟨by rfl,?y15⟩) hS ?_
 case y15 => (intro w' hw'; have m2 := (hw'.cell hb).trans hm2; go_simp)
 go_simp
 refine wpAnyH_take (i := 16) (v := .int .i64 (p2 : Nat)) rfl (by kernel_rfl) (by kernel_rfl) (by kernel_rfl) (fun c x w => hQ c x _ _ w) (Or.inl ⟨by rfl,?y16⟩) hS ?_
 case y16 => (intro w' hw'; go_simp)
 go_simp
 refine wpAnyH_take (i := 17) (v := .int .i64 (10 * (p2 : Int))) rfl (by kernel_rfl) (by kernel_rfl) (by kernel_rfl) (fun c x w => hQ c x _ _ w) (Or.inl ⟨by rfl,?y17⟩) hS ?_
 case y17 => (intro w' hw'; go_simp; rw [IntKind.wrap_i64]; omega)
 go_simp
 refine wpAnyH_take (i := 18) (v := .slice (some ⟨gu,0,none⟩) N cap) rfl (by kernel_rfl) (by kernel_rfl) (by kernel_rfl) (fun c x w => hQ c x _ _ w) (Or.inl ⟨by rfl,?y18⟩) hS ?_
 case y18 => (intro w' hw'; go_simp)
 go_simp
 refine wpAnyH_take (i := 19) (v := .int .i64 (i : Nat)) rfl (by kernel_rfl) (by kernel_rfl) (by kernel_rfl) (fun c x w => hQ c x _ _ w) (Or.inl ⟨by rfl,?y19⟩) hS ?_
 case y19 => (intro w' hw'; go_simp)
 go_simp
 refine wpAnyH_take (i := 20) (v := .pointer (some ⟨gu,i * 3,none⟩)) rfl (by kernel_rfl) (by kernel_rfl) (by kernel_rfl) (fun c x w => hQ c x _ _ w) (Or.inl ⟨by rfl,?y20⟩) hS ?_
 case y20 => (intro w' hw'; go_simp)
 go_simp
 refine wpAnyH_take (i := 21) (v := .pointer (some ⟨gu,i * 3,none⟩)) rfl (by kernel_rfl) (by kernel_rfl) (by kernel_rfl) (fun c x w => hQ c x _ _ w) (Or.inl ⟨by rfl,?y21⟩) hS ?_
 case y21 => (intro w' hw'; go_simp)
 go_simp
 refine wpAnyH_take (i := 22) (v := .int .i64 h) rfl (by kernel_rfl) (by kernel_rfl) (by kernel_rfl) (fun c x w => hQ c x _ _ w) (Or.inl ⟨by rfl,?y22⟩) hS ?_
 case y22 => (intro w' hw'; have r0 := (hw'.cell hu).trans hr0; go_simp)
 go_simp
 refine wpAnyH_take (i := 23) (v := .int .i64 Y) rfl (by kernel_rfl) (by kernel_rfl) (by kernel_rfl) (fun c x w => hQ c x _ _ w) (Or.inl ⟨by rfl,?y23⟩) hS ?_
 case y23 => (intro w' hw'; go_simp)
 go_simp
 refine wpAnyH_take (i := 24) (v := .int .i64 (h - Y)) rfl (by kernel_rfl) (by kernel_rfl) (by kernel_rfl) (fun c x w => hQ c x _ _ w) (Or.inl ⟨by rfl,?y24⟩) hS ?_
 case y24 => (intro w' hw'; go_simp; rw [IntKind.wrap_i64]; omega)
 go_simp
 refine wpAnyH_take (i := 25) (v := .bool false) rfl (by kernel_rfl) (by kernel_rfl) (by kernel_rfl) (fun c x w => hQ c x _ _ w) (Or.inl ⟨by rfl,?y25⟩) hS ?_
 case y25 => (intro w' hw'; go_simp)
 go_simp
 refine wpAnyH_take (i := 26) (v := .bool false) rfl (by kernel_rfl) (by kernel_rfl) (by kernel_rfl) (fun c x w => hQ c x _ _ w) (Or.inl ⟨by rfl,?y26⟩) hS ?_
 case y26 => (intro w' hw'; go_simp)
 go_simp
 exact wpAnyH_done (by kernel_rfl) (hK _ hS) _

def opsp_r28 (ps : String) : Array Oper := #[⟨some 128,.move (.tmp 9),3,ps,#[],none⟩,⟨some 129,.move (.tmp 1),3,ps,#[],none⟩,⟨some 130,.binOp .gtr 3 (.tmp 128) (.tmp 129) 3,4,ps,#[⟨0,.data⟩,⟨1,.data⟩],none⟩,⟨some 131,.move (.tmp 130),4,ps,#[⟨2,.data⟩],none⟩,⟨some 132,.move (.tmp 6),27,ps,#[⟨3,.guard⟩],some (3,false)⟩,⟨some 133,.move (.tmp 8),3,ps,#[⟨3,.guard⟩],some (3,false)⟩,⟨some 134,.indexAddr 27 (.tmp 132) (.tmp 133),0,ps,#[⟨4,.data⟩,⟨5,.data⟩,⟨3,.guard⟩],some (3,false)⟩,⟨some 135,.fieldAddr 39 (.tmp 134) 2,0,ps,#[⟨6,.data⟩,⟨3,.guard⟩],some (3,false)⟩,⟨some 136,.load 37 (.tmp 135),37,ps,#[⟨7,.data⟩,⟨3,.guard⟩],some (3,false)⟩,⟨some 137,.call ⟨.builtin .len,#[.tmp 136],#[37]⟩,3,ps,#[⟨8,.data⟩,⟨3,.guard⟩],some (3,false)⟩,⟨some 138,.fieldAddr 24 (.tmp 2) 0,0,ps,#[⟨3,.guard⟩],some (3,false)⟩,⟨some 139,.load 3 (.tmp 138),3,ps,#[⟨10,.data⟩,⟨3,.guard⟩],some (3,false)⟩,⟨some 140,.binOp .neq 3 (.tmp 137) (.tmp 139) 3,4,ps,#[⟨9,.data⟩,⟨11,.data⟩,⟨3,.guard⟩],some (3,false)⟩,⟨some 141,.pick (.tmp 131) (.const (.bool true)) (.tmp 140),4,ps,#[⟨3,.data⟩,⟨12,.data⟩],none⟩]

theorem sp_r28 (Q : Exit → Act → World → Prop) (hQ : ∀ c x (n : Nat) v w,Q (.panic c) (x.put (some n) v) w → Q (.panic c) x w) (id : Nat) (ps : String) (tB gu i N cap T n : Nat) (q X : Int) {v0 v3 v4 v5 v7 xa xb xc xd xe xf xg xh xi xj xk xl xm xn xo xp xq xr xt xu xv xw xx xy xz xA xB xC xD xE xF xG xH xI xJ xK xL xM xN xO xP xQ xR xS xT xU xV xW xX xY xZ ya yb yc yd ye yf yg yh yi yj yk yl ym yn yo yp yq yr yt yu yv yw yx yy yz yA yB yC yD yE yF yG yH yI yJ yK yL yM yN yO yP yQ yR yS yT yU yV yW yX yY yZ za zb zc zd ze zf zg zh zi zj zk zl zm zn zo zp zq zr zs zt zu zv zw zx zy zz zA zB zC zD zE zF zG zH zI zJ zK zL zM zN zO zP zQ zR zS zT zU zV zW zX zY zZ qa qb qc qd qf qg qh qi qj qk ql qm qn qo qp qq qr qs qt qu qv qw qx qy qz qA qB qC qD qE qF qG qH qI qJ qK qL qM qN qO qP qQ qR qS qT qU qV qW qX qY qZ ja jb jc jd je jf jg jh ji jj jk jl jm jn jo jp jq jr js jt : Value} (W : World)
  (hiN : (i : Int) < (N : Int)) (hu : gu < W.heap.size) (ht : tB < W.heap.size) (hr2 : W.cell? ⟨gu,i * 3 + 2,none⟩ = some (.slice (some ⟨T,0,none⟩) n n)) (ht0 : W.cell? ⟨tB,0,none⟩ = some (.int .i64 n)) (hX : ¬ q < X)
  (hK : ∀ W',Below W.heap.size W W' → Q .normal { tmps := #[v0,.int .i64 q,.pointer (some ⟨tB,0,none⟩),v3,v4,v5,.slice (some ⟨gu,0,none⟩) N cap,v7,.int .i64 (i : Nat),.int .i64 X,xa,xb,xc,xd,xe,xf,xg,xh,xi,xj,xk,xl,xm,xn,xo,xp,xq,xr,xt,xu,xv,xw,xx,xy,xz,xA,xB,xC,xD,xE,xF,xG,xH,xI,xJ,xK,xL,xM,xN,xO,xP,xQ,xR,xS,xT,xU,xV,xW,xX,xY,xZ,ya,yb,yc,yd,ye,yf,yg,yh,yi,yj,yk,yl,ym,yn,yo,yp,yq,yr,yt,yu,yv,yw,yx,yy,yz,yA,yB,yC,yD,yE,yF,yG,yH,yI,yJ,yK,yL,yM,yN,yO,yP,yQ,yR,yS,yT,yU,yV,yW,yX,yY,yZ,za,zb,zc,zd,ze,zf,zg,zh,zi,zj,zk,zl,zm,zn,zo,zp,.int .i64 X,.int .i64 q,.bool false,.bool false,.slice (some ⟨gu,0,none⟩) N cap,.int .i64 (i : Nat),.pointer (some ⟨gu,i * 3,none⟩),.pointer (some ⟨gu,i * 3 + 2,none⟩),.slice (some ⟨T,0,none⟩) n n,.int .i64 (n : Nat),.pointer (some ⟨tB,0,none⟩),.int .i64 n,.bool false,.bool false,zE,zF,zG,zH,zI,zJ,zK,zL,zM,zN,zO,zP,zQ,zR,zS,zT,zU,zV,zW,zX,zY,zZ,qa,qb,qc,qd,qf,qg,qh,qi,qj,qk,ql,qm,qn,qo,qp,qq,qr,qs,qt,qu,qv,qw,qx,qy,qz,qA,qB,qC,qD,qE,qF,qG,qH,qI,qJ,qK,qL,qM,qN,qO,qP,qQ,qR,qS,qT,qU,qV,qW,qX,qY,qZ,ja,jb,jc,jd,je,jf,jg,jh,ji,jj,jk,jl,jm,jn,jo,jp,jq,jr,js,jt],defers := [] } W') :
  (Code.region id (opsp_r28 ps) true).wp Tryz.prog Q { tmps := #[v0,.int .i64 q,.pointer (some ⟨tB,0,none⟩),v3,v4,v5,.slice (some ⟨gu,0,none⟩) N cap,v7,.int .i64 (i : Nat),.int .i64 X,xa,xb,xc,xd,xe,xf,xg,xh,xi,xj,xk,xl,xm,xn,xo,xp,xq,xr,xt,xu,xv,xw,xx,xy,xz,xA,xB,xC,xD,xE,xF,xG,xH,xI,xJ,xK,xL,xM,xN,xO,xP,xQ,xR,xS,xT,xU,xV,xW,xX,xY,xZ,ya,yb,yc,yd,ye,yf,yg,yh,yi,yj,yk,yl,ym,yn,yo,yp,yq,yr,yt,yu,yv,yw,yx,yy,yz,yA,yB,yC,yD,yE,yF,yG,yH,yI,yJ,yK,yL,yM,yN,yO,yP,yQ,yR,yS,yT,yU,yV,yW,yX,yY,yZ,za,zb,zc,zd,ze,zf,zg,zh,zi,zj,zk,zl,zm,zn,zo,zp,zq,zr,zs,zt,zu,zv,zw,zx,zy,zz,zA,zB,zC,zD,zE,zF,zG,zH,zI,zJ,zK,zL,zM,zN,zO,zP,zQ,zR,zS,zT,zU,zV,zW,zX,zY,zZ,qa,qb,qc,qd,qf,qg,qh,qi,qj,qk,ql,qm,qn,qo,qp,qq,qr,qs,qt,qu,qv,qw,qx,qy,qz,qA,qB,qC,qD,qE,qF,qG,qH,qI,qJ,qK,qL,qM,qN,qO,qP,qQ,qR,qS,qT,qU,qV,qW,qX,qY,qZ,ja,jb,jc,jd,je,jf,jg,jh,ji,jj,jk,jl,jm,jn,jo,jp,jq,jr,js,jt],defers := [] } W := by
 have hS : Below W.heap.size W W.drew := below_drew W
 refine wp_region_held (S := fun w => Below W.heap.size W w) (by kernel_rfl) ?_
 change wpAnyH _ _ _ _ _ 14 _ _ (World.drew W)
 generalize W.drew = V at hS ⊢
 unfold opsp_r28
 refine wpAnyH_take (i := 0) (v := .int .i64 X) rfl (by kernel_rfl) (by kernel_rfl) (by kernel_rfl) (fun c x w => hQ c x _ _ w) (Or.inl ⟨by rfl,?y0⟩) hS ?_
 case y0 => (intro w' hw'; go_simp)
 go_simp
 refine wpAnyH_take (i := 1) (v := .int .i64 q) rfl (by kernel_rfl) (by kernel_rfl) (by kernel_rfl) (fun c x w => hQ c x _ _ w) (Or.inl ⟨by rfl,?y1⟩) hS ?_
 case y1 => (intro w' hw'; go_simp)
 go_simp
 refine wpAnyH_take (i := 2) (v := .bool false) rfl (by kernel_rfl) (by kernel_rfl) (by kernel_rfl) (fun c x w => hQ c x _ _ w) (Or.inl ⟨by rfl,?y2⟩) hS ?_
 case y2 => (intro w' hw'; go_simp)
 go_simp
 refine wpAnyH_take (i := 3) (v := .bool false) rfl (by kernel_rfl) (by kernel_rfl) (by kernel_rfl) (fun c x w => hQ c x _ _ w) (Or.inl ⟨by rfl,?y3⟩) hS ?_
 case y3 => (intro w' hw'; go_simp)
 go_simp
 refine wpAnyH_take (i := 4) (v := .slice (some ⟨gu,0,none⟩) N cap) rfl (by kernel_rfl) (by kernel_rfl) (by kernel_rfl) (fun c x w => hQ c x _ _ w) (Or.inl ⟨by rfl,?y4⟩) hS ?_
 case y4 => (intro w' hw'; go_simp)
 go_simp
 refine wpAnyH_take (i := 5) (v := .int .i64 (i : Nat)) rfl (by kernel_rfl) (by kernel_rfl) (by kernel_rfl) (fun c x w => hQ c x _ _ w) (Or.inl ⟨by rfl,?y5⟩) hS ?_
 case y5 => (intro w' hw'; go_simp)
 go_simp
 refine wpAnyH_take (i := 6) (v := .pointer (some ⟨gu,i * 3,none⟩)) rfl (by kernel_rfl) (by kernel_rfl) (by kernel_rfl) (fun c x w => hQ c x _ _ w) (Or.inl ⟨by rfl,?y6⟩) hS ?_
 case y6 => (intro w' hw'; go_simp)
 go_simp
 refine wpAnyH_take (i := 7) (v := .pointer (some ⟨gu,i * 3 + 2,none⟩)) rfl (by kernel_rfl) (by kernel_rfl) (by kernel_rfl) (fun c x w => hQ c x _ _ w) (Or.inl ⟨by rfl,?y7⟩) hS ?_
 case y7 => (intro w' hw'; go_simp)
 go_simp
 refine wpAnyH_take (i := 8) (v := .slice (some ⟨T,0,none⟩) n n) rfl (by kernel_rfl) (by kernel_rfl) (by kernel_rfl) (fun c x w => hQ c x _ _ w) (Or.inl ⟨by rfl,?y8⟩) hS ?_
 case y8 => (intro w' hw'; have r2 := (hw'.cell hu).trans hr2; go_simp)
 go_simp
 refine wpAnyH_take (i := 9) (v := .int .i64 (n : Nat)) rfl (by kernel_rfl) (by kernel_rfl) (by kernel_rfl) (fun c x w => hQ c x _ _ w) (Or.inl ⟨by rfl,?y9⟩) hS ?_
 case y9 => (intro w' hw'; go_simp)
 go_simp
 refine wpAnyH_take (i := 10) (v := .pointer (some ⟨tB,0,none⟩)) rfl (by kernel_rfl) (by kernel_rfl) (by kernel_rfl) (fun c x w => hQ c x _ _ w) (Or.inl ⟨by rfl,?y10⟩) hS ?_
 case y10 => (intro w' hw'; go_simp)
 go_simp
 refine wpAnyH_take (i := 11) (v := .int .i64 n) rfl (by kernel_rfl) (by kernel_rfl) (by kernel_rfl) (fun c x w => hQ c x _ _ w) (Or.inl ⟨by rfl,?y11⟩) hS ?_
 case y11 => (intro w' hw'; have t0 := (hw'.cell ht).trans ht0; go_simp)
 go_simp
 refine wpAnyH_take (i := 12) (v := .bool false) rfl (by kernel_rfl) (by kernel_rfl) (by kernel_rfl) (fun c x w => hQ c x _ _ w) (Or.inl ⟨by rfl,?y12⟩) hS ?_
 case y12 => (intro w' hw'; go_simp)
 go_simp
 refine wpAnyH_take (i := 13) (v := .bool false) rfl (by kernel_rfl) (by kernel_rfl) (by kernel_rfl) (fun c x w => hQ c x _ _ w) (Or.inl ⟨by rfl,?y13⟩) hS ?_
 case y13 => (intro w' hw'; go_simp)
 go_simp
 exact wpAnyH_done (by kernel_rfl) (hK _ hS) _

end Go.Proofs.YtaphggjakaghjaaGreatDoor
