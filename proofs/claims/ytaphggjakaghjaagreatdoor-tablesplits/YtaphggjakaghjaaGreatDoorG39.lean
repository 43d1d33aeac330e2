/-
  What is proved here: a row's cells are found to stand in their columns, their lines to be their texts.
-/
import Derived.Test.YtaphggjakaghjaaGreatDoorG38
namespace Go.Proofs.YtaphggjakaghjaaGreatDoor
open Go.RowKit Go.Shelf
set_option maxRecDepth 100000
set_option maxHeartbeats 8000000

def atI (ls : List Lx) (k : Nat) : Int := if k = 0 then 0 else (ls.getD (k - 1) lx0).t
structure ClF (T c : Nat) (X Y : Int) (t : ByteArray) (mx : Nat) (W : World) : Prop where
 ex : ∃ (g : Nat) (ls : List Lx),W.rangeAt T (c * 3) [.int .i64 X,.int .i64 Y,.slice (some ⟨g,0,none⟩) ls.length ls.length] ∧ LxsAt W (.slice (some ⟨g,0,none⟩) ls.length ls.length) ls ∧ CLs t (roS X Y) ls ∧ ls.length ≤ mx
structure C1F (tB gu i N cap b o L cap2 n : Nat) (h : Int) (sa : Option Addr) (sn sc T mx : Nat) (ws : List Int) (ts : List ByteArray) (W : World) : Prop where
 row : RoF gu i h sa sn sc T n W
 iN : i < N
 t0 : W.cell? ⟨tB,0,none⟩ = some (.int .i64 n)
 t1 : W.cell? ⟨tB,1,none⟩ = some (.slice (some ⟨b,o,none⟩) L cap2)
 tl : tB < W.heap.size
 tx : ∀ c,c < n → W.cell? ⟨b,o + (i * n + c),none⟩ = some (.string (ts.getD c ⟨#[]⟩)) ∧ (ts.getD c ⟨#[]⟩).size ≤ 200
 bl : b < W.heap.size
 len : i * n + n ≤ L ∧ L ≤ 64
 cl : ∀ c,c < n → ClF T c (smI ws c) (ws.getD c 0) (ts.getD c ⟨#[]⟩) mx W
 Tl : T < W.heap.size
 h : h = 10 * (mx : Int) + 4
 mx : mx ≤ 500
 ws : ∀ c,c < n → (0 ≤ ws.getD c 0 ∧ ws.getD c 0 ≤ 4095) ∧ (0 ≤ smI ws c ∧ smI ws c ≤ 100000)
 n8 : n ≤ 8
def codeC1 : Code := (Code.region 13 #[⟨some 10,.assign (.const (.int .i64 0)),3,"outright.go:67",#[],none⟩] false).seq (Code.block 2 (((Code.region 14 #[⟨some 50,.move (.tmp 10),3,"outright.go:67",#[],none⟩,⟨some 51,.move (.tmp 6),27,"outright.go:67",#[],none⟩,⟨some 52,.move (.tmp 8),3,"outright.go:67",#[],none⟩,⟨some 53,.indexAddr 27 (.tmp 51) (.tmp 52),0,"outright.go:67",#[⟨1,.data⟩,⟨2,.data⟩],none⟩,⟨some 54,.fieldAddr 39 (.tmp 53) 2,0,"outright.go:67",#[⟨3,.data⟩],none⟩,⟨some 55,.load 37 (.tmp 54),37,"outright.go:67",#[⟨4,.data⟩],none⟩,⟨some 56,.call ⟨.builtin .len,#[.tmp 55],#[37]⟩,3,"outright.go:67",#[⟨5,.data⟩],none⟩,⟨some 57,.binOp .lss 3 (.tmp 50) (.tmp 56) 3,4,"outright.go:67",#[⟨0,.data⟩,⟨6,.data⟩],none⟩] false).seq (Code.cond (Operand.tmp 57) Code.skip (Code.exit 2))).seq ((Code.block 3 ((Code.region 16 #[⟨some 60,.move (.tmp 6),27,"outright.go:68",#[],none⟩,⟨some 61,.move (.tmp 8),3,"outright.go:68",#[],none⟩,⟨some 62,.indexAddr 27 (.tmp 60) (.tmp 61),0,"outright.go:68",#[⟨0,.data⟩,⟨1,.data⟩],none⟩,⟨some 63,.fieldAddr 39 (.tmp 62) 2,0,"outright.go:68",#[⟨2,.data⟩],none⟩,⟨some 64,.load 37 (.tmp 63),37,"outright.go:68",#[⟨3,.data⟩],none⟩,⟨some 65,.move (.tmp 10),3,"outright.go:68",#[],none⟩,⟨some 66,.indexAddr 37 (.tmp 64) (.tmp 65),0,"outright.go:68",#[⟨4,.data⟩,⟨5,.data⟩],none⟩,⟨some 67,.load 46 (.tmp 66),46,"outright.go:68",#[⟨6,.data⟩],none⟩,⟨some 11,.alloc 46,0,"outright.go:68",#[],none⟩,⟨none,.store 46 (.tmp 11) (.tmp 67),0,"outright.go:68",#[⟨8,.data⟩,⟨7,.data⟩,⟨0,.phase⟩,⟨1,.phase⟩,⟨2,.phase⟩,⟨3,.phase⟩,⟨4,.phase⟩,⟨5,.phase⟩,⟨6,.phase⟩,⟨7,.phase⟩,⟨8,.phase⟩],none⟩] false).seq ((Code.region 17 #[⟨some 12,.assign (.const (.int .i64 0)),3,"outright.go:69",#[],none⟩] false).seq (((Code.region 18 #[⟨some 13,.assign (.const (.int .i64 0)),3,"outright.go:70",#[],none⟩] false).seq (Code.block 4 (((Code.region 19 #[⟨some 68,.move (.tmp 13),3,"outright.go:70",#[],none⟩,⟨some 69,.fieldAddr 46 (.tmp 11) 2,0,"outright.go:70",#[],none⟩,⟨some 70,.load 44 (.tmp 69),44,"outright.go:70",#[⟨1,.data⟩],none⟩,⟨some 71,.call ⟨.builtin .len,#[.tmp 70],#[44]⟩,3,"outright.go:70",#[⟨2,.data⟩],none⟩,⟨some 72,.binOp .lss 3 (.tmp 68) (.tmp 71) 3,4,"outright.go:70",#[⟨0,.data⟩,⟨3,.data⟩],none⟩] false).seq (Code.cond (Operand.tmp 72) Code.skip (Code.exit 4))).seq ((Code.block 5 ((Code.region 21 #[⟨some 75,.fieldAddr 46 (.tmp 11) 2,0,"outright.go:71",#[],none⟩,⟨some 76,.load 44 (.tmp 75),44,"outright.go:71",#[⟨0,.data⟩],none⟩,⟨some 77,.move (.tmp 13),3,"outright.go:71",#[],none⟩,⟨some 78,.indexAddr 44 (.tmp 76) (.tmp 77),0,"outright.go:71",#[⟨1,.data⟩,⟨2,.data⟩],none⟩,⟨some 79,.load 55 (.tmp 78),55,"outright.go:71",#[⟨3,.data⟩],none⟩,⟨some 14,.alloc 55,0,"outright.go:71",#[],none⟩,⟨none,.store 55 (.tmp 14) (.tmp 79),0,"outright.go:71",#[⟨5,.data⟩,⟨4,.data⟩,⟨0,.phase⟩,⟨1,.phase⟩,⟨2,.phase⟩,⟨3,.phase⟩,⟨4,.phase⟩,⟨5,.phase⟩],none⟩] false).seq (((Code.region 22 #[⟨some 80,.fieldAddr 55 (.tmp 14) 0,0,"outright.go:72",#[],none⟩,⟨some 81,.load 3 (.tmp 80),3,"outright.go:72",#[⟨0,.data⟩],none⟩,⟨some 82,.move (.tmp 12),3,"outright.go:72",#[],none⟩,⟨some 83,.binOp .neq 3 (.tmp 81) (.tmp 82) 3,4,"outright.go:72",#[⟨1,.data⟩,⟨2,.data⟩],none⟩,⟨some 84,.move (.tmp 83),4,"outright.go:72",#[⟨3,.data⟩],none⟩,⟨some 85,.fieldAddr 55 (.tmp 14) 2,0,"outright.go:72",#[⟨4,.guard⟩],some (4,false)⟩,⟨some 86,.load 3 (.tmp 85),3,"outright.go:72",#[⟨5,.data⟩,⟨4,.guard⟩],some (4,false)⟩,⟨some 87,.move (.tmp 9),3,"outright.go:72",#[⟨4,.guard⟩],some (4,false)⟩,⟨some 88,.binOp .add 3 (.tmp 87) (.const (.int .i64 2)) 3,3,"outright.go:72",#[⟨7,.data⟩,⟨4,.guard⟩],some (4,false)⟩,⟨some 89,.binOp .neq 3 (.tmp 86) (.tmp 88) 3,4,"outright.go:72",#[⟨6,.data⟩,⟨8,.data⟩,⟨4,.guard⟩],some (4,false)⟩,⟨some 90,.pick (.tmp 84) (.const (.bool true)) (.tmp 89),4,"outright.go:72",#[⟨4,.data⟩,⟨9,.data⟩],none⟩,⟨some 91,.move (.tmp 90),4,"outright.go:72",#[⟨10,.data⟩,⟨4,.chain⟩],none⟩,⟨some 92,.move (.tmp 13),3,"outright.go:72",#[⟨11,.guard⟩],some (11,false)⟩,⟨some 93,.binOp .add 3 (.tmp 92) (.const (.int .i64 1)) 3,3,"outright.go:72",#[⟨12,.data⟩,⟨11,.guard⟩],some (11,false)⟩,⟨some 94,.binOp .mul 3 (.const (.int .i64 10)) (.tmp 93) 3,3,"outright.go:72",#[⟨13,.data⟩,⟨11,.guard⟩],some (11,false)⟩,⟨some 95,.binOp .add 3 (.const (.int .i64 2)) (.tmp 94) 3,3,"outright.go:72",#[⟨14,.data⟩,⟨11,.guard⟩],some (11,false)⟩,⟨some 96,.move (.tmp 6),27,"outright.go:72",#[⟨11,.guard⟩],some (11,false)⟩,⟨some 97,.move (.tmp 8),3,"outright.go:72",#[⟨11,.guard⟩],some (11,false)⟩,⟨some 98,.indexAddr 27 (.tmp 96) (.tmp 97),0,"outright.go:72",#[⟨16,.data⟩,⟨17,.data⟩,⟨11,.guard⟩],some (11,false)⟩,⟨some 99,.fieldAddr 39 (.tmp 98) 0,0,"outright.go:72",#[⟨18,.data⟩,⟨11,.guard⟩],some (11,false)⟩,⟨some 100,.load 3 (.tmp 99),3,"outright.go:72",#[⟨19,.data⟩,⟨11,.guard⟩],some (11,false)⟩,⟨some 101,.binOp .gtr 3 (.tmp 95) (.tmp 100) 3,4,"outright.go:72",#[⟨15,.data⟩,⟨20,.data⟩,⟨11,.guard⟩],some (11,false)⟩,⟨some 102,.pick (.tmp 91) (.const (.bool true)) (.tmp 101),4,"outright.go:72",#[⟨11,.data⟩,⟨21,.data⟩],none⟩] false).seq (Code.cond (Operand.tmp 102) ((Code.region 23 #[⟨some 4,.assign (.const (.bool false)),4,"outright.go:73",#[],none⟩] false).seq Code.ret) Code.skip)).seq (Code.region 24 #[⟨some 103,.fieldAddr 55 (.tmp 14) 1,0,"outright.go:75",#[],none⟩,⟨some 104,.load 3 (.tmp 103),3,"outright.go:75",#[⟨0,.data⟩],none⟩,⟨some 12,.assign (.tmp 104),3,"outright.go:75",#[⟨1,.data⟩,⟨0,.phase⟩,⟨1,.phase⟩],none⟩] false)))).seq (Code.region 20 #[⟨some 73,.move (.tmp 13),3,"outright.go:70",#[],none⟩,⟨some 74,.binOp .add 3 (.tmp 73) (.const (.int .i64 1)) 3,3,"outright.go:70",#[⟨0,.data⟩],none⟩,⟨some 13,.assign (.tmp 74),3,"outright.go:70",#[⟨1,.data⟩,⟨0,.phase⟩,⟨1,.phase⟩],none⟩] false))).loop)).seq (((Code.region 25 #[⟨some 105,.fieldAddr 46 (.tmp 11) 0,0,"outright.go:77",#[],none⟩,⟨some 106,.load 3 (.tmp 105),3,"outright.go:77",#[⟨0,.data⟩],none⟩,⟨some 107,.move (.tmp 9),3,"outright.go:77",#[],none⟩,⟨some 108,.binOp .neq 3 (.tmp 106) (.tmp 107) 3,4,"outright.go:77",#[⟨1,.data⟩,⟨2,.data⟩],none⟩,⟨some 109,.move (.tmp 108),4,"outright.go:77",#[⟨3,.data⟩],none⟩,⟨some 110,.move (.tmp 12),3,"outright.go:77",#[⟨4,.guard⟩],some (4,false)⟩,⟨some 111,.fieldAddr 24 (.tmp 2) 1,0,"outright.go:77",#[⟨4,.guard⟩],some (4,false)⟩,⟨some 112,.load 22 (.tmp 111),22,"outright.go:77",#[⟨6,.data⟩,⟨4,.guard⟩],some (4,false)⟩,⟨some 113,.move (.tmp 8),3,"outright.go:77",#[⟨4,.guard⟩],some (4,false)⟩,⟨some 114,.fieldAddr 24 (.tmp 2) 0,0,"outright.go:77",#[⟨4,.guard⟩],some (4,false)⟩,⟨some 115,.load 3 (.tmp 114),3,"outright.go:77",#[⟨9,.data⟩,⟨4,.guard⟩],some (4,false)⟩,⟨some 116,.binOp .mul 3 (.tmp 113) (.tmp 115) 3,3,"outright.go:77",#[⟨8,.data⟩,⟨10,.data⟩,⟨4,.guard⟩],some (4,false)⟩,⟨some 117,.move (.tmp 10),3,"outright.go:77",#[⟨4,.guard⟩],some (4,false)⟩,⟨some 118,.binOp .add 3 (.tmp 116) (.tmp 117) 3,3,"outright.go:77",#[⟨11,.data⟩,⟨12,.data⟩,⟨4,.guard⟩],some (4,false)⟩,⟨some 119,.indexAddr 22 (.tmp 112) (.tmp 118),0,"outright.go:77",#[⟨7,.data⟩,⟨13,.data⟩,⟨4,.guard⟩],some (4,false)⟩,⟨some 120,.load 9 (.tmp 119),9,"outright.go:77",#[⟨14,.data⟩,⟨4,.guard⟩],some (4,false)⟩,⟨some 121,.call ⟨.builtin .len,#[.tmp 120],#[9]⟩,3,"outright.go:77",#[⟨15,.data⟩,⟨4,.guard⟩],some (4,false)⟩,⟨some 122,.binOp .neq 3 (.tmp 110) (.tmp 121) 3,4,"outright.go:77",#[⟨5,.data⟩,⟨16,.data⟩,⟨4,.guard⟩],some (4,false)⟩,⟨some 123,.pick (.tmp 109) (.const (.bool true)) (.tmp 122),4,"outright.go:77",#[⟨4,.data⟩,⟨17,.data⟩],none⟩] false).seq (Code.cond (Operand.tmp 123) ((Code.region 26 #[⟨some 4,.assign (.const (.bool false)),4,"outright.go:78",#[],none⟩] false).seq Code.ret) Code.skip)).seq (Code.region 27 #[⟨some 124,.move (.tmp 9),3,"outright.go:80",#[],none⟩,⟨some 125,.fieldAddr 46 (.tmp 11) 1,0,"outright.go:80",#[],none⟩,⟨some 126,.load 3 (.tmp 125),3,"outright.go:80",#[⟨1,.data⟩],none⟩,⟨some 127,.binOp .add 3 (.tmp 124) (.tmp 126) 3,3,"outright.go:80",#[⟨0,.data⟩,⟨2,.data⟩],none⟩,⟨some 9,.assign (.tmp 127),3,"outright.go:80",#[⟨3,.data⟩,⟨0,.phase⟩,⟨1,.phase⟩,⟨2,.phase⟩,⟨3,.phase⟩],none⟩] false)))))).seq (Code.region 15 #[⟨some 58,.move (.tmp 10),3,"outright.go:67",#[],none⟩,⟨some 59,.binOp .add 3 (.tmp 58) (.const (.int .i64 1)) 3,3,"outright.go:67",#[⟨0,.data⟩],none⟩,⟨some 10,.assign (.tmp 59),3,"outright.go:67",#[⟨1,.data⟩,⟨0,.phase⟩,⟨1,.phase⟩],none⟩] false))).loop)
theorem c1_wp (Q : Exit → Act → World → Prop) (tB gu i N cap b o L cap2 n : Nat) (h : Int) (sa : Option Addr) (sn sc T mx : Nat) (ws : List Int) (ts : List ByteArray) {v0 v1 v3 v4 v5 v7 xa xb xc xd xe xf xg xh xi xj xk xl xm xn xo xp xq xr xt xu xv xw xx xy xz xA xB xC xD xE xF xG xH xI xJ xK xL xM xN xO xP xQ xR xS xT xU xV xW xX xY xZ yb yc yd ye yg yi yj yk yl ym yo yp yq yr yu yv yx yy yz yA yB yC yD yE yF yG yH yI yJ yK yL yM yN yO yP yQ yR yS yT yU yV yW yX yY yZ za zb zc zd ze zf zg zh zi zj zk zl zm zn zo zp zq zr zs zt zu zv zw zx zy zz zA zB zC zD zE zF zG zH zI zJ zK zL zM zN zO zP zQ zR zS zT zU zV zW zX zY zZ qa qb qc qd qf qg qh qi qj qk ql qm qn qo qp qq qr qs qt qu qv qw qx qy qz qA qB qC qD qE qF qG qH qI qJ qK qL qM qN qO qP qQ qR qS qT qU qV qW qX qY qZ ja jb jc jd je jf jg jh ji jj jk jl jm jn jo jp jq jr js jt ju jv jw jx jy jz : Value} (W : World) (hF : C1F tB gu i N cap b o L cap2 n h sa sn sc T mx ws ts W)
  (hK : Hid (∀ W',Below W.heap.size W W' → ∀ u4 u10 u11 u12 u13 u14 u50 u51 u52 u53 u54 u55 u56 u57 u58 u59 u60 u61 u62 u63 u64 u65 u66 u67 u68 u69 u70 u71 u72 u73 u74 u75 u76 u77 u78 u79 u80 u81 u82 u83 u84 u85 u86 u87 u88 u89 u90 u91 u92 u93 u94 u95 u96 u97 u98 u99 u100 u101 u102 u103 u104 u105 u106 u107 u108 u109 u110 u111 u112 u113 u114 u115 u116 u117 u118 u119 u120 u121 u122 u123 u124 u125 u126 u127,Q .normal { tmps := #[v0,v1,.pointer (some ⟨tB,0,none⟩),v3,u4,v5,.slice (some ⟨gu,0,none⟩) N cap,v7,.int .i64 (i : Nat),.int .i64 (smI ws n),u10,u11,u12,u13,u14,xf,xg,xh,xi,xj,xk,xl,xm,xn,xo,xp,xq,xr,xt,xu,xv,xw,xx,xy,xz,xA,xB,xC,xD,xE,xF,xG,xH,xI,xJ,xK,xL,xM,xN,xO,u50,u51,u52,u53,u54,u55,u56,u57,u58,u59,u60,u61,u62,u63,u64,u65,u66,u67,u68,u69,u70,u71,u72,u73,u74,u75,u76,u77,u78,u79,u80,u81,u82,u83,u84,u85,u86,u87,u88,u89,u90,u91,u92,u93,u94,u95,u96,u97,u98,u99,u100,u101,u102,u103,u104,u105,u106,u107,u108,u109,u110,u111,u112,u113,u114,u115,u116,u117,u118,u119,u120,u121,u122,u123,u124,u125,u126,u127,zw,zx,zy,zz,zA,zB,zC,zD,zE,zF,zG,zH,zI,zJ,zK,zL,zM,zN,zO,zP,zQ,zR,zS,zT,zU,zV,zW,zX,zY,zZ,qa,qb,qc,qd,qf,qg,qh,qi,qj,qk,ql,qm,qn,qo,qp,qq,qr,qs,qt,qu,qv,qw,qx,qy,qz,qA,qB,qC,qD,qE,qF,qG,qH,qI,qJ,qK,qL,qM,qN,qO,qP,qQ,qR,qS,qT,qU,qV,qW,qX,qY,qZ,ja,jb,jc,jd,je,jf,jg,jh,ji,jj,jk,jl,jm,jn,jo,jp,jq,jr,js,jt,ju,jv,jw,jx,jy,jz],defers := [] } W')) :
  codeC1.wp Tryz.prog Q { tmps := #[v0,v1,.pointer (some ⟨tB,0,none⟩),v3,v4,v5,.slice (some ⟨gu,0,none⟩) N cap,v7,.int .i64 (i : Nat),.int .i64 0,xa,xb,xc,xd,xe,xf,xg,xh,xi,xj,xk,xl,xm,xn,xo,xp,xq,xr,xt,xu,xv,xw,xx,xy,xz,xA,xB,xC,xD,xE,xF,xG,xH,xI,xJ,xK,xL,xM,xN,xO,xP,xQ,xR,xS,xT,xU,xV,xW,xX,xY,xZ,yb,yc,yd,ye,yg,yi,yj,yk,yl,ym,yo,yp,yq,yr,yu,yv,yx,yy,yz,yA,yB,yC,yD,yE,yF,yG,yH,yI,yJ,yK,yL,yM,yN,yO,yP,yQ,yR,yS,yT,yU,yV,yW,yX,yY,yZ,za,zb,zc,zd,ze,zf,zg,zh,zi,zj,zk,zl,zm,zn,zo,zp,zq,zr,zs,zt,zu,zv,zw,zx,zy,zz,zA,zB,zC,zD,zE,zF,zG,zH,zI,zJ,zK,zL,zM,zN,zO,zP,zQ,zR,zS,zT,zU,zV,zW,zX,zY,zZ,qa,qb,qc,qd,qf,qg,qh,qi,qj,qk,ql,qm,qn,qo,qp,qq,qr,qs,qt,qu,qv,qw,qx,qy,qz,qA,qB,qC,qD,qE,qF,qG,qH,qI,qJ,qK,qL,qM,qN,qO,qP,qQ,qR,qS,qT,qU,qV,qW,qX,qY,qZ,ja,jb,jc,jd,je,jf,jg,jh,ji,jj,jk,jl,jm,jn,jo,jp,jq,jr,js,jt,ju,jv,jw,jx,jy,jz],defers := [] } W := by
 have hFh : Hid (C1F tB gu i N cap b o L cap2 n h sa sn sc T mx ws ts W) := hF
 have hrow : Hid (∀ W',Below W.heap.size W W' → W'.cell? ⟨gu,i * 3,none⟩ = some (.int .i64 h) ∧ W'.cell? ⟨gu,i * 3 + 2,none⟩ = some (.slice (some ⟨T,0,none⟩) n n) ∧ W'.cell? ⟨tB,0,none⟩ = some (.int .i64 n) ∧ W'.cell? ⟨tB,1,none⟩ = some (.slice (some ⟨b,o,none⟩) L cap2)) := fun W' hb => ⟨(hF.row.below hb).c0,(hF.row.below hb).c2,(hb.cell hF.tl).trans hF.t0,(hb.cell hF.tl).trans hF.t1⟩
 have hiN : (i : Int) < (N : Int) := by have := hF.iN; omega
 have hn8 : n ≤ 8 := hF.n8
 have hmx : mx ≤ 500 := hF.mx
 have hhe : Hid (h = 10 * (mx : Int) + 4) := hF.h
 clear hF
 unfold codeC1
 go_wp2_with fail
 go_loopw [9,10] (fun v9 xa wr => ∃ c : Nat,c ≤ n ∧ xa = .int .i64 (c : Int) ∧ v9 = .int .i64 (smI ws c) ∧ Hid (Below W.heap.size W wr)) (fun _ xa _ => n - (intOf xa).toNat)
 case atStart => exact ⟨0,by omega,rfl,rfl,Below.refl _ _⟩
 case round =>
  obtain ⟨c,hc,rfl,rfl,hb⟩ := hrel
  obtain ⟨r0,r2,r3,r4⟩ := hrow.out wr hb.out
  by_cases hlt : c < n
  ·have hlt' : (c : Int) < (n : Int) := by omega
   obtain ⟨g,ls,hrg,hls,hC,hlm⟩ := (hFh.out.cl c hlt).ex
   have hrg' : wr.rangeAt T (c * 3) [.int .i64 (smI ws c),.int .i64 (ws.getD c 0),.slice (some ⟨g,0,none⟩) ls.length ls.length] := fun j v hv => (hb.out.cell hFh.out.Tl).trans (hrg j v hv)
   have hws := hFh.out.ws c hlt
   have hz0 : (wr.alloc (.cells #[.int .i64 0,.int .i64 0,.slice none 0 0] 46)).heap[wr.heap.size]? = some (.cells #[.int .i64 0,.int .i64 0,.slice none 0 0] 46 (0,0)) := World.alloc_heap_new wr _
   have hbx := below_box wr (.cells #[.int .i64 0,.int .i64 0,.slice none 0 0] 46) #[.int .i64 (smI ws c),.int .i64 (ws.getD c 0),.slice (some ⟨g,0,none⟩) ls.length ls.length]
   have hz1 := setRow_heap _ _ _ (#[.int .i64 (smI ws c),.int .i64 (ws.getD c 0),.slice (some ⟨g,0,none⟩) ls.length ls.length] : Array Value) _ _ hz0
   have hlsh : Hid (LxsAt W (.slice (some ⟨g,0,none⟩) ls.length ls.length) ls ∧ CLs (ts.getD c ⟨#[]⟩) (roS (smI ws c) (ws.getD c 0)) ls ∧ ls.length ≤ mx) := ⟨hls,hC,hlm⟩
   have hlen : ls.length ≤ 500 := by omega
   have htx : Hid (∀ W',Below W.heap.size W W' → W'.cell? ⟨b,o + (i * n + c),none⟩ = some (.string (ts.getD c ⟨#[]⟩)) ∧ (ts.getD c ⟨#[]⟩).size ≤ 200 ∧ i * n + c < L ∧ L ≤ 64) := fun W' hb' => ⟨(hb'.cell hFh.out.bl).trans (hFh.out.tx c hlt).1,(hFh.out.tx c hlt).2,by have := hFh.out.len.1; omega,hFh.out.len.2⟩
   have hnx : Hid (smI ws (c + 1) = smI ws c + ws.getD c 0) := smI_succ ws c
   have hx2 : Hid ((roS (smI ws c) (ws.getD c 0)).x = smI ws c + 2) := rfl
   clear hrg hls hC hlm
   generalize ts.getD c ⟨#[]⟩ = tt at *
   generalize roS (smI ws c) (ws.getD c 0) = ro at *
   generalize ws.getD c 0 = Y at *
   generalize smI ws c = X at *
   obtain ⟨⟨y1,y2⟩,x1,x2⟩ := hws
   go_wp2_with (first | (refine wpList_load_mid rfl 46 _ rfl T (c * 3) rfl [.int .i64 X,.int .i64 Y,.slice (some ⟨g,0,none⟩) ls.length ls.length] _ hrg' Tryz.underlying46 rfl (info46m _ _ _) ?_) | (refine wpList_store_row rfl 46 _ _ rfl wr.heap.size #[.int .i64 X,.int .i64 Y,.slice (some ⟨g,0,none⟩) ls.length ls.length] rfl rfl 46 _ hz0 (info46 _ _ _) rfl (one46 _ _ _ _ _) ?_; clear hz0 hrg'; generalize (wr.alloc (.cells #[.int .i64 0,.int .i64 0,.slice none 0 0] 46)).setRow wr.heap.size #[.int .i64 X,.int .i64 Y,.slice (some ⟨g,0,none⟩) ls.length ls.length] = w5 at *))
   have hd : Hid (∀ W',Below w5.heap.size w5 W' → W'.cell? ⟨wr.heap.size,0,none⟩ = some (.int .i64 X) ∧ W'.cell? ⟨wr.heap.size,1,none⟩ = some (.int .i64 Y) ∧ W'.cell? ⟨wr.heap.size,2,none⟩ = some (.slice (some ⟨g,0,none⟩) ls.length ls.length)) := fun W' hb' => by
    have hz := (hb'.block _ (Array.getElem?_eq_some_iff.1 hz1).1).trans hz1
    exact ⟨(Lib.cell_of_heap hz _).trans rfl,(Lib.cell_of_heap hz _).trans rfl,(Lib.cell_of_heap hz _).trans rfl⟩
   have hB5 : Hid (Below W.heap.size W w5) := hb.out.trans (hbx.mono hb.out.size)
   obtain ⟨m,hm⟩ : ∃ m : Nat,i * n = m := ⟨_,rfl⟩
   rw [hm] at htx
   have hmi : (i : Int) * (n : Int) = (m : Int) := by rw [← hm]; exact (Int.natCast_mul i n).symm
   obtain ⟨p,hp⟩ : ∃ p : Nat,m + c = p := ⟨_,rfl⟩
   rw [hp] at htx
   have hpi : (m : Int) + (c : Int) = (p : Int) := by omega
   have hp64 : p < L ∧ L ≤ 64 := (htx.out W (Below.refl _ _)).2.2
   have hend : Hid (atI ls ls.length = (tt.size : Nat)) := by
    have hC := hlsh.out.2.1
    show atI ls ls.length = _
    unfold atI
    rw [if_neg (by have := hC.pos; omega),List.getD_eq_getElem?_getD,List.getElem?_eq_getElem (by have := hC.pos; omega)]
    exact hC.t hC.pos
   have htxh : Hid (i * n = m ∧ m + c = p) := ⟨hm,hp⟩
   clear hm hp hz1 hbx hb r0 r2 r3 r4
   generalize wr.heap.size = gB at *
   go_loopw [12,13] (fun xc xd wq => ∃ k : Nat,k ≤ ls.length ∧ xd = .int .i64 (k : Int) ∧ xc = .int .i64 (atI ls k) ∧ Hid (Below w5.heap.size w5 wq)) (fun _ xd _ => ls.length - (intOf xd).toNat)
   case atStart => exact ⟨0,by omega,rfl,rfl,Below.refl _ _⟩
   case round =>
    obtain ⟨k,hk,rfl,rfl,hq⟩ := hrel
    obtain ⟨p0,p1,p2⟩ := hd.out wr hq.out
    have hBq : Hid (Below W.heap.size W wr) := hB5.out.trans (hq.out.mono hB5.out.size)
    by_cases hlk : k < ls.length
    ·have hlk' : (k : Int) < (ls.length : Int) := by omega
     obtain ⟨g',o',e,_,hrow7⟩ := RecAt.range (hlsh.out.1.below hBq.out (Nat.le_refl _)) hlk
     obtain ⟨rfl,rfl⟩ : g = g' ∧ 0 = o' := by simpa using e
     rw [Nat.zero_add] at hrow7
     have hC := hlsh.out.2.1
     have hgt : ¬ h < 2 + 10 * ((k : Int) + 1) := by have := hhe.out; have := hlsh.out.2.2; omega
     have hf : ls[k].f = atI ls k := by
      rw [hC.f k hlk]
      unfold atI
      split
      ·rfl
      ·rw [List.getD_eq_getElem?_getD,List.getElem?_eq_getElem (by omega)]; rfl
     have hx : ls[k].x = X + 2 := (hC.x k hlk).trans hx2.out
     have hnt : Hid (atI ls (k + 1) = ls[k].t) := by
      show atI ls (k + 1) = _
      unfold atI
      rw [if_neg (by omega),List.getD_eq_getElem?_getD,show k + 1 - 1 = k by omega,List.getElem?_eq_getElem hlk]; rfl
     have e7 : lxL ls[k] = lxL ⟨atI ls k,ls[k].t,X + 2,ls[k].w,ls[k].nt,ls[k].hy,ls[k].fl⟩ := by show [_,_,_,_,_,_,_] = _; rw [hf,hx]; rfl
     rw [e7] at hrow7
     have hz0 : (wr.alloc (.cells #[.int .i64 0,.int .i64 0,.int .i64 0,.int .i64 0,.int .i64 0,.bool false,.int .i64 0] 55)).heap[wr.heap.size]? = some (.cells #[.int .i64 0,.int .i64 0,.int .i64 0,.int .i64 0,.int .i64 0,.bool false,.int .i64 0] 55 (0,0)) := World.alloc_heap_new wr _
     generalize ls[k].t = yt at *
     generalize ls[k].w = yw at *
     generalize ls[k].nt = yn at *
     generalize ls[k].hy = yh at *
     generalize ls[k].fl = yf at *
     generalize atI ls k = ya at *
     have hbx := below_box wr (.cells #[.int .i64 0,.int .i64 0,.int .i64 0,.int .i64 0,.int .i64 0,.bool false,.int .i64 0] 55) (lxL ⟨ya,yt,X + 2,yw,yn,yh,yf⟩).toArray
     have hz1 := setRow_heap _ _ _ (lxL ⟨ya,yt,X + 2,yw,yn,yh,yf⟩).toArray _ _ hz0
     have hB7 : Hid (Below w5.heap.size w5 _) := hq.out.trans (hbx.mono hq.out.size)
     have hb7 : Hid (∀ W',W' = _ → Below W.heap.size W W') := fun W' e => by rw [e]; exact hBq.out.trans (hbx.mono hBq.out.size)
     clear hf hx e7 hC e hbx hend htx htxh hlsh hq hBq
     go_wp2_with (first | (refine wpList_load_mid rfl 55 _ rfl g (k * 7) rfl (lxL ⟨ya,yt,X + 2,yw,yn,yh,yf⟩) _ hrow7 Tryz.underlying55 rfl (info55n _) ?_) | (refine wpList_store_row rfl 55 _ _ rfl wr.heap.size (lxL ⟨ya,yt,X + 2,yw,yn,yh,yf⟩).toArray rfl rfl 55 _ hz0 (infoL51 _) rfl (lxL_all _) ?_; clear hz0 hrow7; generalize (wr.alloc (.cells #[.int .i64 0,.int .i64 0,.int .i64 0,.int .i64 0,.int .i64 0,.bool false,.int .i64 0] 55)).setRow wr.heap.size (lxL ⟨ya,yt,X + 2,yw,yn,yh,yf⟩).toArray = w7 at *; have q0 : w7.cell? ⟨wr.heap.size,0,none⟩ = some (.int .i64 ya) := (Lib.cell_of_heap hz1 _).trans rfl; have q1 : w7.cell? ⟨wr.heap.size,1,none⟩ = some (.int .i64 yt) := (Lib.cell_of_heap hz1 _).trans rfl; have q2 : w7.cell? ⟨wr.heap.size,2,none⟩ = some (.int .i64 (X + 2)) := (Lib.cell_of_heap hz1 _).trans rfl; have r0 := (hrow.out w7 (hb7.out w7 rfl)).1))
     refine ⟨⟨k + 1,by omega,rfl,?_,hB7.out⟩,by simp [intOf]; omega⟩
     rw [hnt.out]
    ·have hkn : k = ls.length := by omega
     subst hkn
     have hge : ¬ ((ls.length : Nat) : Int) < (ls.length : Int) := by omega
     obtain ⟨r0,r2,r3,r4⟩ := hrow.out wr hBq.out
     obtain ⟨tx1,tx2,_,_⟩ := htx.out wr hBq.out
     have hend' := hend.out
     clear hend htx hlsh hd hq
     rw [hend']
     clear hend'
     go_wp2_with fail
     refine ⟨⟨c + 1,by omega,rfl,?_,hBq.out⟩,by simp [intOf]; omega⟩
     rw [hnx.out]
  ·have hcn : c = n := by omega
   subst hcn
   have hge : ¬ (c : Int) < (c : Int) := by omega
   have hfin := hK.out wr hb.out
   clear hK hFh hrow
   go_wp2_with fail
   exact hfin ..
end Go.Proofs.YtaphggjakaghjaaGreatDoor
