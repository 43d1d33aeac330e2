/-
  What is proved here: what mayBe answers of any item.
-/
import Derived.Test.YtaphggjakaghjaaGreatDoorG1
import Derived.Test.YtaphggjakaghjaaGreatDoorG2
namespace Go.Proofs.YtaphggjakaghjaaGreatDoor
open Go.RowKit Go.Shelf
set_option maxRecDepth 100000
set_option maxHeartbeats 4000000

structure ItAt (z : World) (b o : Nat) (x : It) (W : World) : Prop where
 bel : Below z.heap.size z W
 c0 : W.cell? ⟨b,o,none⟩ = some (.int .i64 x.k)
 c1 : W.cell? ⟨b,o + 1,none⟩ = some (.int .i64 x.f)
 c2 : W.cell? ⟨b,o + 2,none⟩ = some (.int .i64 x.t)
 c3 : W.cell? ⟨b,o + 3,none⟩ = some (.int .i64 x.w)
 c4 : W.cell? ⟨b,o + 4,none⟩ = some (.int .i64 x.s)
 c5 : W.cell? ⟨b,o + 5,none⟩ = some (.int .i64 x.h)
 c6 : W.cell? ⟨b,o + 6,none⟩ = some (.int .i64 x.c)
 c7 : W.cell? ⟨b,o + 7,none⟩ = some (.bool x.y)
def fr55 (v0 v1 v2 v3 v4 v5 v6 v7 v8 v9 xa xb xc xd xe xf xg xh xi xj xk xl xm xn xo xp xq xr xt xu xv xw xx xy xz xA xB xC xD xE xF xG xH xI xJ xK xL xM xN xO xP xQ xR xS xT xU xV xW xX xY xZ ya yb yc yd ye yf yg yh yi yj yk yl ym yn yo yp yq yr yt : Value) : Act := { tmps := #[v0,v1,v2,v3,v4,v5,v6,v7,v8,v9,xa,xb,xc,xd,xe,xf,xg,xh,xi,xj,xk,xl,xm,xn,xo,xp,xq,xr,xt,xu,xv,xw,xx,xy,xz,xA,xB,xC,xD,xE,xF,xG,xH,xI,xJ,xK,xL,xM,xN,xO,xP,xQ,xR,xS,xT,xU,xV,xW,xX,xY,xZ,ya,yb,yc,yd,ye,yf,yg,yh,yi,yj,yk,yl,ym,yn,yo,yp,yq,yr,yt],defers := [] }
def ops55_11_0 (ps _p1 : String) : Oper := ⟨some 18,.move (.tmp 0),329,ps,#[],none⟩
def ops55_11_1 (ps _p1 : String) : Oper := ⟨some 19,.nilCheck (.tmp 18),0,ps,#[⟨0,.data⟩],none⟩
def ops55_11_2 (ps _p1 : String) : Oper := ⟨some 20,.fieldAddr 125 (.tmp 19) 1,0,ps,#[⟨1,.data⟩],none⟩
def ops55_11_3 (ps _p1 : String) : Oper := ⟨some 21,.load 3 (.tmp 20),3,ps,#[⟨2,.data⟩],none⟩
def ops55_11_4 (ps _p1 : String) : Oper := ⟨some 22,.binOp .geq 3 (.tmp 21) (.const (.int .i64 0)) 3,4,ps,#[⟨3,.data⟩],none⟩
def ops55_11_5 (ps _p1 : String) : Oper := ⟨some 23,.move (.tmp 22),4,ps,#[⟨4,.data⟩],none⟩
def ops55_11_6 (ps _p1 : String) : Oper := ⟨some 24,.move (.tmp 0),329,ps,#[⟨5,.guard⟩],some (5,true)⟩
def ops55_11_7 (ps _p1 : String) : Oper := ⟨some 25,.nilCheck (.tmp 24),0,ps,#[⟨6,.data⟩,⟨5,.guard⟩],some (5,true)⟩
def ops55_11_8 (ps _p1 : String) : Oper := ⟨some 26,.fieldAddr 125 (.tmp 25) 2,0,ps,#[⟨7,.data⟩,⟨5,.guard⟩],some (5,true)⟩
def ops55_11_9 (ps _p1 : String) : Oper := ⟨some 27,.load 3 (.tmp 26),3,ps,#[⟨8,.data⟩,⟨5,.guard⟩],some (5,true)⟩
def ops55_11_10 (ps _p1 : String) : Oper := ⟨some 28,.move (.tmp 0),329,ps,#[⟨5,.guard⟩],some (5,true)⟩
def ops55_11_11 (ps _p1 : String) : Oper := ⟨some 29,.nilCheck (.tmp 28),0,ps,#[⟨10,.data⟩,⟨5,.guard⟩],some (5,true)⟩
def ops55_11_12 (ps _p1 : String) : Oper := ⟨some 30,.fieldAddr 125 (.tmp 29) 1,0,ps,#[⟨11,.data⟩,⟨5,.guard⟩],some (5,true)⟩
def ops55_11_13 (ps _p1 : String) : Oper := ⟨some 31,.load 3 (.tmp 30),3,ps,#[⟨12,.data⟩,⟨5,.guard⟩],some (5,true)⟩
def ops55_11_14 (ps _p1 : String) : Oper := ⟨some 32,.binOp .geq 3 (.tmp 27) (.tmp 31) 3,4,ps,#[⟨9,.data⟩,⟨13,.data⟩,⟨5,.guard⟩],some (5,true)⟩
def ops55_11_15 (ps _p1 : String) : Oper := ⟨some 33,.pick (.tmp 23) (.tmp 32) (.const (.bool false)),4,ps,#[⟨5,.data⟩,⟨14,.data⟩],none⟩
def ops55_11_16 (ps _p1 : String) : Oper := ⟨some 34,.move (.tmp 33),4,ps,#[⟨15,.data⟩,⟨5,.chain⟩],none⟩
def ops55_11_17 (ps _p1 : String) : Oper := ⟨some 35,.move (.tmp 0),329,ps,#[⟨16,.guard⟩],some (16,true)⟩
def ops55_11_18 (ps _p1 : String) : Oper := ⟨some 36,.nilCheck (.tmp 35),0,ps,#[⟨17,.data⟩,⟨16,.guard⟩],some (16,true)⟩
def ops55_11_19 (ps _p1 : String) : Oper := ⟨some 37,.fieldAddr 125 (.tmp 36) 3,0,ps,#[⟨18,.data⟩,⟨16,.guard⟩],some (16,true)⟩
def ops55_11_20 (ps _p1 : String) : Oper := ⟨some 38,.load 3 (.tmp 37),3,ps,#[⟨19,.data⟩,⟨16,.guard⟩],some (16,true)⟩
def ops55_11_21 (ps _p1 : String) : Oper := ⟨some 39,.move (.tmp 3),3,ps,#[⟨16,.guard⟩],some (16,true)⟩
def ops55_11_22 (_ps p1 : String) : Oper := ⟨some 40,.call ⟨.value (.func 281),#[.tmp 38,.tmp 39],#[3,3]⟩,4,p1,#[⟨20,.data⟩,⟨21,.data⟩,⟨16,.chain⟩,⟨16,.guard⟩],some (16,true)⟩
def ops55_11_23 (ps _p1 : String) : Oper := ⟨some 41,.pick (.tmp 34) (.tmp 40) (.const (.bool false)),4,ps,#[⟨16,.data⟩,⟨22,.data⟩],none⟩
def ops55_11_24 (ps _p1 : String) : Oper := ⟨some 42,.move (.tmp 41),4,ps,#[⟨23,.data⟩,⟨22,.chain⟩],none⟩
def ops55_11_25 (ps _p1 : String) : Oper := ⟨some 43,.move (.tmp 0),329,ps,#[⟨24,.guard⟩],some (24,true)⟩
def ops55_11_26 (ps _p1 : String) : Oper := ⟨some 44,.nilCheck (.tmp 43),0,ps,#[⟨25,.data⟩,⟨24,.guard⟩],some (24,true)⟩
def ops55_11_27 (ps _p1 : String) : Oper := ⟨some 45,.fieldAddr 125 (.tmp 44) 4,0,ps,#[⟨26,.data⟩,⟨24,.guard⟩],some (24,true)⟩
def ops55_11_28 (ps _p1 : String) : Oper := ⟨some 46,.load 3 (.tmp 45),3,ps,#[⟨27,.data⟩,⟨24,.guard⟩],some (24,true)⟩
def ops55_11_29 (ps _p1 : String) : Oper := ⟨some 47,.move (.tmp 4),3,ps,#[⟨24,.guard⟩],some (24,true)⟩
def ops55_11_30 (_ps p1 : String) : Oper := ⟨some 48,.call ⟨.value (.func 281),#[.tmp 46,.tmp 47],#[3,3]⟩,4,p1,#[⟨28,.data⟩,⟨29,.data⟩,⟨24,.chain⟩,⟨24,.guard⟩],some (24,true)⟩
def ops55_11_31 (ps _p1 : String) : Oper := ⟨some 49,.pick (.tmp 42) (.tmp 48) (.const (.bool false)),4,ps,#[⟨24,.data⟩,⟨30,.data⟩],none⟩
def ops55_11_32 (ps _p1 : String) : Oper := ⟨some 50,.move (.tmp 49),4,ps,#[⟨31,.data⟩,⟨30,.chain⟩],none⟩
def ops55_11_33 (ps _p1 : String) : Oper := ⟨some 51,.move (.tmp 0),329,ps,#[⟨32,.guard⟩],some (32,true)⟩
def ops55_11_34 (ps _p1 : String) : Oper := ⟨some 52,.nilCheck (.tmp 51),0,ps,#[⟨33,.data⟩,⟨32,.guard⟩],some (32,true)⟩
def ops55_11_35 (ps _p1 : String) : Oper := ⟨some 53,.fieldAddr 125 (.tmp 52) 5,0,ps,#[⟨34,.data⟩,⟨32,.guard⟩],some (32,true)⟩
def ops55_11_36 (ps _p1 : String) : Oper := ⟨some 54,.load 3 (.tmp 53),3,ps,#[⟨35,.data⟩,⟨32,.guard⟩],some (32,true)⟩
def ops55_11_37 (ps _p1 : String) : Oper := ⟨some 55,.move (.tmp 4),3,ps,#[⟨32,.guard⟩],some (32,true)⟩
def ops55_11_38 (_ps p1 : String) : Oper := ⟨some 56,.call ⟨.value (.func 281),#[.tmp 54,.tmp 55],#[3,3]⟩,4,p1,#[⟨36,.data⟩,⟨37,.data⟩,⟨32,.chain⟩,⟨32,.guard⟩],some (32,true)⟩
def ops55_11_39 (ps _p1 : String) : Oper := ⟨some 57,.pick (.tmp 50) (.tmp 56) (.const (.bool false)),4,ps,#[⟨32,.data⟩,⟨38,.data⟩],none⟩
def ops55_11_40 (ps _p1 : String) : Oper := ⟨some 58,.move (.tmp 57),4,ps,#[⟨39,.data⟩,⟨38,.chain⟩],none⟩
def ops55_11_41 (ps _p1 : String) : Oper := ⟨some 59,.move (.tmp 0),329,ps,#[⟨40,.guard⟩],some (40,true)⟩
def ops55_11_42 (ps _p1 : String) : Oper := ⟨some 60,.nilCheck (.tmp 59),0,ps,#[⟨41,.data⟩,⟨40,.guard⟩],some (40,true)⟩
def ops55_11_43 (ps _p1 : String) : Oper := ⟨some 61,.fieldAddr 125 (.tmp 60) 6,0,ps,#[⟨42,.data⟩,⟨40,.guard⟩],some (40,true)⟩
def ops55_11_44 (ps _p1 : String) : Oper := ⟨some 62,.load 3 (.tmp 61),3,ps,#[⟨43,.data⟩,⟨40,.guard⟩],some (40,true)⟩
def ops55_11_45 (ps _p1 : String) : Oper := ⟨some 63,.move (.tmp 5),3,ps,#[⟨40,.guard⟩],some (40,true)⟩
def ops55_11_46 (_ps p1 : String) : Oper := ⟨some 64,.call ⟨.value (.func 281),#[.tmp 62,.tmp 63],#[3,3]⟩,4,p1,#[⟨44,.data⟩,⟨45,.data⟩,⟨40,.chain⟩,⟨40,.guard⟩],some (40,true)⟩
def ops55_11_47 (ps _p1 : String) : Oper := ⟨some 65,.pick (.tmp 58) (.tmp 64) (.const (.bool false)),4,ps,#[⟨40,.data⟩,⟨46,.data⟩],none⟩
def ops55_11_48 (ps _p1 : String) : Oper := ⟨some 66,.move (.tmp 65),4,ps,#[⟨47,.data⟩,⟨46,.chain⟩],none⟩
def ops55_11_49 (ps _p1 : String) : Oper := ⟨some 67,.move (.tmp 0),329,ps,#[⟨48,.guard⟩],some (48,true)⟩
def ops55_11_50 (ps _p1 : String) : Oper := ⟨some 68,.nilCheck (.tmp 67),0,ps,#[⟨49,.data⟩,⟨48,.guard⟩],some (48,true)⟩
def ops55_11_51 (ps _p1 : String) : Oper := ⟨some 69,.fieldAddr 125 (.tmp 68) 7,0,ps,#[⟨50,.data⟩,⟨48,.guard⟩],some (48,true)⟩
def ops55_11_52 (ps _p1 : String) : Oper := ⟨some 70,.load 4 (.tmp 69),4,ps,#[⟨51,.data⟩,⟨48,.guard⟩],some (48,true)⟩
def ops55_11_53 (ps _p1 : String) : Oper := ⟨some 71,.unOp .not 4 (.tmp 70),4,ps,#[⟨52,.data⟩,⟨48,.guard⟩],some (48,true)⟩
def ops55_11_54 (ps _p1 : String) : Oper := ⟨some 72,.move (.tmp 71),4,ps,#[⟨53,.data⟩,⟨48,.chain⟩,⟨48,.guard⟩],some (48,true)⟩
def ops55_11_55 (ps _p1 : String) : Oper := ⟨some 73,.move (.tmp 0),329,ps,#[⟨54,.guard⟩],some (54,false)⟩
def ops55_11_56 (ps _p1 : String) : Oper := ⟨some 74,.nilCheck (.tmp 73),0,ps,#[⟨55,.data⟩,⟨54,.guard⟩],some (54,false)⟩
def ops55_11_57 (ps _p1 : String) : Oper := ⟨some 75,.fieldAddr 125 (.tmp 74) 0,0,ps,#[⟨56,.data⟩,⟨54,.guard⟩],some (54,false)⟩
def ops55_11_58 (ps _p1 : String) : Oper := ⟨some 76,.load 3 (.tmp 75),3,ps,#[⟨57,.data⟩,⟨54,.guard⟩],some (54,false)⟩
def ops55_11_59 (ps _p1 : String) : Oper := ⟨some 77,.binOp .eql 3 (.tmp 76) (.const (.int .i64 3)) 3,4,ps,#[⟨58,.data⟩,⟨54,.guard⟩],some (54,false)⟩
def ops55_11_60 (ps _p1 : String) : Oper := ⟨some 78,.pick (.tmp 72) (.const (.bool true)) (.tmp 77),4,ps,#[⟨54,.data⟩,⟨59,.data⟩,⟨48,.guard⟩],some (48,true)⟩
def ops55_11_61 (ps _p1 : String) : Oper := ⟨some 79,.pick (.tmp 66) (.tmp 78) (.const (.bool false)),4,ps,#[⟨48,.data⟩,⟨60,.data⟩],none⟩
def ops55_11_62 (ps _p1 : String) : Oper := ⟨some 2,.assign (.tmp 79),4,ps,#[⟨61,.data⟩,⟨54,.chain⟩,⟨0,.phase⟩,⟨1,.phase⟩,⟨2,.phase⟩,⟨3,.phase⟩,⟨4,.phase⟩,⟨5,.phase⟩,⟨6,.phase⟩,⟨7,.phase⟩,⟨8,.phase⟩,⟨9,.phase⟩,⟨10,.phase⟩,⟨11,.phase⟩,⟨12,.phase⟩,⟨13,.phase⟩,⟨14,.phase⟩,⟨15,.phase⟩,⟨16,.phase⟩,⟨17,.phase⟩,⟨18,.phase⟩,⟨19,.phase⟩,⟨20,.phase⟩,⟨21,.phase⟩,⟨22,.phase⟩,⟨23,.phase⟩,⟨24,.phase⟩,⟨25,.phase⟩,⟨26,.phase⟩,⟨27,.phase⟩,⟨28,.phase⟩,⟨29,.phase⟩,⟨30,.phase⟩,⟨31,.phase⟩,⟨32,.phase⟩,⟨33,.phase⟩,⟨34,.phase⟩,⟨35,.phase⟩,⟨36,.phase⟩,⟨37,.phase⟩,⟨38,.phase⟩,⟨39,.phase⟩,⟨40,.phase⟩,⟨41,.phase⟩,⟨42,.phase⟩,⟨43,.phase⟩,⟨44,.phase⟩,⟨45,.phase⟩,⟨46,.phase⟩,⟨47,.phase⟩,⟨48,.phase⟩,⟨49,.phase⟩,⟨50,.phase⟩,⟨51,.phase⟩,⟨52,.phase⟩,⟨53,.phase⟩,⟨54,.phase⟩,⟨55,.phase⟩,⟨56,.phase⟩,⟨57,.phase⟩,⟨58,.phase⟩,⟨59,.phase⟩,⟨60,.phase⟩,⟨61,.phase⟩],none⟩
def ops55_11 (ps p1 : String) : Array Oper := #[ops55_11_0 ps p1,ops55_11_1 ps p1,ops55_11_2 ps p1,ops55_11_3 ps p1,ops55_11_4 ps p1,ops55_11_5 ps p1,ops55_11_6 ps p1,ops55_11_7 ps p1,ops55_11_8 ps p1,ops55_11_9 ps p1,ops55_11_10 ps p1,ops55_11_11 ps p1,ops55_11_12 ps p1,ops55_11_13 ps p1,ops55_11_14 ps p1,ops55_11_15 ps p1,ops55_11_16 ps p1,ops55_11_17 ps p1,ops55_11_18 ps p1,ops55_11_19 ps p1,ops55_11_20 ps p1,ops55_11_21 ps p1,ops55_11_22 ps p1,ops55_11_23 ps p1,ops55_11_24 ps p1,ops55_11_25 ps p1,ops55_11_26 ps p1,ops55_11_27 ps p1,ops55_11_28 ps p1,ops55_11_29 ps p1,ops55_11_30 ps p1,ops55_11_31 ps p1,ops55_11_32 ps p1,ops55_11_33 ps p1,ops55_11_34 ps p1,ops55_11_35 ps p1,ops55_11_36 ps p1,ops55_11_37 ps p1,ops55_11_38 ps p1,ops55_11_39 ps p1,ops55_11_40 ps p1,ops55_11_41 ps p1,ops55_11_42 ps p1,ops55_11_43 ps p1,ops55_11_44 ps p1,ops55_11_45 ps p1,ops55_11_46 ps p1,ops55_11_47 ps p1,ops55_11_48 ps p1,ops55_11_49 ps p1,ops55_11_50 ps p1,ops55_11_51 ps p1,ops55_11_52 ps p1,ops55_11_53 ps p1,ops55_11_54 ps p1,ops55_11_55 ps p1,ops55_11_56 ps p1,ops55_11_57 ps p1,ops55_11_58 ps p1,ops55_11_59 ps p1,ops55_11_60 ps p1,ops55_11_61 ps p1,ops55_11_62 ps p1]

theorem mb_r11_5 (Q : Exit → Act → World → Prop) (hQ : ∀ c x (n : Nat) v w,Q (.panic c) (x.put (some n) v) w → Q (.panic c) x w) (ps p1 : String) {v1 v2 v6 v7 v8 v9 xa xb xc xd xe xf xg xh xi xj xk xl xm xn xo xp xq xr xt xu xv xw xx xy xz xA xB xC xD xE xF xG xH xI xJ xK xL xM xN xO xP xQ xR xS xT xU xV xW xX xY xZ ya yb yc yd ye yg yh yi yj yk yl ym yn yo yp yq yr yt : Value} (g o : Nat) (mw mg mc k f t wd s h c : Int) (y q0 q1 q2 q3 : Bool) (z : World) (b : Bool) (w : World) (hS : ItAt z g o ⟨k,f,t,wd,s,h,c,y⟩ w)
  (_hk0 : ∀ w : World,Calls Tryz.prog 281 #[.int .i64 wd,.int .i64 mw] w fun e w' => e = .returned (.bool q0) ∧ w' = w)
  (_hk1 : ∀ w : World,Calls Tryz.prog 281 #[.int .i64 s,.int .i64 mg] w fun e w' => e = .returned (.bool q1) ∧ w' = w)
  (_hk2 : ∀ w : World,Calls Tryz.prog 281 #[.int .i64 h,.int .i64 mg] w fun e w' => e = .returned (.bool q2) ∧ w' = w)
  (_hk3 : ∀ w : World,Calls Tryz.prog 281 #[.int .i64 c,.int .i64 mc] w fun e w' => e = .returned (.bool q3) ∧ w' = w)
  (hq : Hid (∀ r,r = (b && (!y || k == 3)) → ∀ u18 u19 u20 u21 u22 u23 u24 u25 u26 u27 u28 u29 u30 u31 u32 u33 u34 u35 u36 u37 u38 u39 u40 u41 u42 u43 u44 u45 u46 u47 u48 u49 u50 u51 u52 u53 u54 u55 u56 u57 u58 u59 u60 u61 u62 u63 u64 u65 u66 u67 u68 u69 u70 u71 u72 u73 u74 u75 u76 u77 u78 u79 w',ItAt z g o ⟨k,f,t,wd,s,h,c,y⟩ w' → Q .normal (fr55 (.pointer (some ⟨g,o,none⟩)) v1 (.bool r) (.int .i64 mw) (.int .i64 mg) (.int .i64 mc) v6 v7 v8 v9 xa xb xc xd xe xf xg xh u18 u19 u20 u21 u22 u23 u24 u25 u26 u27 u28 u29 u30 u31 u32 u33 u34 u35 u36 u37 u38 u39 u40 u41 u42 u43 u44 u45 u46 u47 u48 u49 u50 u51 u52 u53 u54 u55 u56 u57 u58 u59 u60 u61 u62 u63 u64 u65 u66 u67 u68 u69 u70 u71 u72 u73 u74 u75 u76 u77 u78 u79) w')) :
  wpAnyH Tryz.prog .any (ops55_11 ps p1) Q (ItAt z g o ⟨k,f,t,wd,s,h,c,y⟩) 14 #[true,true,true,true,true,true,true,true,true,true,true,true,true,true,true,true,true,true,true,true,true,true,true,true,true,true,true,true,true,true,true,true,true,true,true,true,true,true,true,true,true,true,true,true,true,true,true,true,true,false,false,false,false,false,false,false,false,false,false,false,false,false,false] (fr55 (.pointer (some ⟨g,o,none⟩)) v1 v2 (.int .i64 mw) (.int .i64 mg) (.int .i64 mc) v6 v7 v8 v9 xa xb xc xd xe xf xg xh xi xj xk xl xm xn xo xp xq xr xt xu xv xw xx xy xz xA xB xC xD xE xF xG xH xI xJ xK xL xM xN xO xP xQ xR xS xT xU xV xW xX xY xZ ya yb yc yd ye (.bool b) yg yh yi yj yk yl ym yn yo yp yq yr yt) w := by
 cases b
 ·skip
  refine skip_r 49 ⟨some 67,.move (.tmp 0),329,ps,#[⟨48,.guard⟩],some (48,true)⟩ hQ hS ?_
  refine skip_r 50 ⟨some 68,.nilCheck (.tmp 67),0,ps,#[⟨49,.data⟩,⟨48,.guard⟩],some (48,true)⟩ hQ hS ?_
  refine skip_r 51 ⟨some 69,.fieldAddr 125 (.tmp 68) 7,0,ps,#[⟨50,.data⟩,⟨48,.guard⟩],some (48,true)⟩ hQ hS ?_
  refine skip_r 52 ⟨some 70,.load 4 (.tmp 69),4,ps,#[⟨51,.data⟩,⟨48,.guard⟩],some (48,true)⟩ hQ hS ?_
  refine skip_r 53 ⟨some 71,.unOp .not 4 (.tmp 70),4,ps,#[⟨52,.data⟩,⟨48,.guard⟩],some (48,true)⟩ hQ hS ?_
  refine skip_k 54 (ops55_11_54 ps p1) (fr55 (.pointer (some ⟨g,o,none⟩)) v1 v2 (.int .i64 mw) (.int .i64 mg) (.int .i64 mc) v6 v7 v8 v9 xa xb xc xd xe xf xg xh xi xj xk xl xm xn xo xp xq xr xt xu xv xw xx xy xz xA xB xC xD xE xF xG xH xI xJ xK xL xM xN xO xP xQ xR xS xT xU xV xW xX xY xZ ya yb yc yd ye (.bool false) undef undef undef undef undef undef ym yn yo yp yq yr yt) hQ hS ?_
  refine skip_r 55 ⟨some 73,.move (.tmp 0),329,ps,#[⟨54,.guard⟩],some (54,false)⟩ hQ hS ?_
  refine skip_r 56 ⟨some 74,.nilCheck (.tmp 73),0,ps,#[⟨55,.data⟩,⟨54,.guard⟩],some (54,false)⟩ hQ hS ?_
  refine skip_r 57 ⟨some 75,.fieldAddr 125 (.tmp 74) 0,0,ps,#[⟨56,.data⟩,⟨54,.guard⟩],some (54,false)⟩ hQ hS ?_
  refine skip_r 58 ⟨some 76,.load 3 (.tmp 75),3,ps,#[⟨57,.data⟩,⟨54,.guard⟩],some (54,false)⟩ hQ hS ?_
  refine skip_r 59 ⟨some 77,.binOp .eql 3 (.tmp 76) (.const (.int .i64 3)) 3,4,ps,#[⟨58,.data⟩,⟨54,.guard⟩],some (54,false)⟩ hQ hS ?_
  refine skip_k 60 (ops55_11_60 ps p1) (fr55 (.pointer (some ⟨g,o,none⟩)) v1 v2 (.int .i64 mw) (.int .i64 mg) (.int .i64 mc) v6 v7 v8 v9 xa xb xc xd xe xf xg xh xi xj xk xl xm xn xo xp xq xr xt xu xv xw xx xy xz xA xB xC xD xE xF xG xH xI xJ xK xL xM xN xO xP xQ xR xS xT xU xV xW xX xY xZ ya yb yc yd ye (.bool false) undef undef undef undef undef undef undef undef undef undef undef undef yt) hQ hS ?_
  refine take_r 61 ⟨some 79,.pick (.tmp 66) (.tmp 78) (.const (.bool false)),4,ps,#[⟨48,.data⟩,⟨60,.data⟩],none⟩ (.bool false) hQ (fun w _ => by kernel_rfl) hS ?_
  refine take_r 62 ⟨some 2,.assign (.tmp 79),4,ps,#[⟨61,.data⟩,⟨54,.chain⟩,⟨0,.phase⟩,⟨1,.phase⟩,⟨2,.phase⟩,⟨3,.phase⟩,⟨4,.phase⟩,⟨5,.phase⟩,⟨6,.phase⟩,⟨7,.phase⟩,⟨8,.phase⟩,⟨9,.phase⟩,⟨10,.phase⟩,⟨11,.phase⟩,⟨12,.phase⟩,⟨13,.phase⟩,⟨14,.phase⟩,⟨15,.phase⟩,⟨16,.phase⟩,⟨17,.phase⟩,⟨18,.phase⟩,⟨19,.phase⟩,⟨20,.phase⟩,⟨21,.phase⟩,⟨22,.phase⟩,⟨23,.phase⟩,⟨24,.phase⟩,⟨25,.phase⟩,⟨26,.phase⟩,⟨27,.phase⟩,⟨28,.phase⟩,⟨29,.phase⟩,⟨30,.phase⟩,⟨31,.phase⟩,⟨32,.phase⟩,⟨33,.phase⟩,⟨34,.phase⟩,⟨35,.phase⟩,⟨36,.phase⟩,⟨37,.phase⟩,⟨38,.phase⟩,⟨39,.phase⟩,⟨40,.phase⟩,⟨41,.phase⟩,⟨42,.phase⟩,⟨43,.phase⟩,⟨44,.phase⟩,⟨45,.phase⟩,⟨46,.phase⟩,⟨47,.phase⟩,⟨48,.phase⟩,⟨49,.phase⟩,⟨50,.phase⟩,⟨51,.phase⟩,⟨52,.phase⟩,⟨53,.phase⟩,⟨54,.phase⟩,⟨55,.phase⟩,⟨56,.phase⟩,⟨57,.phase⟩,⟨58,.phase⟩,⟨59,.phase⟩,⟨60,.phase⟩,⟨61,.phase⟩],none⟩ (.bool false) hQ (fun w _ => by kernel_rfl) hS ?_
  exact wpAnyH_done (by kernel_rfl) (hq.out _ (by simp) _ _ _ _ _ _ _ _ _ _ _ _ _ _ _ _ _ _ _ _ _ _ _ _ _ _ _ _ _ _ _ _ _ _ _ _ _ _ _ _ _ _ _ _ _ _ _ _ _ _ _ _ _ _ _ _ _ _ _ _ _ _ _ hS) _
 ·skip
  cases y
  ·skip
   refine take_r 49 ⟨some 67,.move (.tmp 0),329,ps,#[⟨48,.guard⟩],some (48,true)⟩ (.pointer (some ⟨g,o,none⟩)) hQ (fun w _ => by kernel_rfl) hS ?_
   refine take_r 50 ⟨some 68,.nilCheck (.tmp 67),0,ps,#[⟨49,.data⟩,⟨48,.guard⟩],some (48,true)⟩ (.pointer (some ⟨g,o,none⟩)) hQ (fun w hS => by unfold fr55; go_simp) hS ?_
   refine take_r 51 ⟨some 69,.fieldAddr 125 (.tmp 68) 7,0,ps,#[⟨50,.data⟩,⟨48,.guard⟩],some (48,true)⟩ (.pointer (some ⟨g,o + 7,none⟩)) hQ (fun w hS => by unfold fr55; go_simp) hS ?_
   refine take_r 52 ⟨some 70,.load 4 (.tmp 69),4,ps,#[⟨51,.data⟩,⟨48,.guard⟩],some (48,true)⟩ (.bool false) hQ (fun w hS => by have e := hS.c7; unfold fr55; go_simp) hS ?_
   refine take_r 53 ⟨some 71,.unOp .not 4 (.tmp 70),4,ps,#[⟨52,.data⟩,⟨48,.guard⟩],some (48,true)⟩ (.bool true) hQ (fun w hS => by unfold fr55; go_simp) hS ?_
   refine take_k 54 (ops55_11_54 ps p1) (.bool true) (fr55 (.pointer (some ⟨g,o,none⟩)) v1 v2 (.int .i64 mw) (.int .i64 mg) (.int .i64 mc) v6 v7 v8 v9 xa xb xc xd xe xf xg xh xi xj xk xl xm xn xo xp xq xr xt xu xv xw xx xy xz xA xB xC xD xE xF xG xH xI xJ xK xL xM xN xO xP xQ xR xS xT xU xV xW xX xY xZ ya yb yc yd ye (.bool true) (.pointer (some ⟨g,o,none⟩)) (.pointer (some ⟨g,o,none⟩)) (.pointer (some ⟨g,o + 7,none⟩)) (.bool false) (.bool true) (.bool true) ym yn yo yp yq yr yt) hQ (fun w _ => by kernel_rfl) hS ?_
   refine skip_r 55 ⟨some 73,.move (.tmp 0),329,ps,#[⟨54,.guard⟩],some (54,false)⟩ hQ hS ?_
   refine skip_r 56 ⟨some 74,.nilCheck (.tmp 73),0,ps,#[⟨55,.data⟩,⟨54,.guard⟩],some (54,false)⟩ hQ hS ?_
   refine skip_r 57 ⟨some 75,.fieldAddr 125 (.tmp 74) 0,0,ps,#[⟨56,.data⟩,⟨54,.guard⟩],some (54,false)⟩ hQ hS ?_
   refine skip_r 58 ⟨some 76,.load 3 (.tmp 75),3,ps,#[⟨57,.data⟩,⟨54,.guard⟩],some (54,false)⟩ hQ hS ?_
   refine skip_r 59 ⟨some 77,.binOp .eql 3 (.tmp 76) (.const (.int .i64 3)) 3,4,ps,#[⟨58,.data⟩,⟨54,.guard⟩],some (54,false)⟩ hQ hS ?_
   refine take_k 60 (ops55_11_60 ps p1) (.bool true) (fr55 (.pointer (some ⟨g,o,none⟩)) v1 v2 (.int .i64 mw) (.int .i64 mg) (.int .i64 mc) v6 v7 v8 v9 xa xb xc xd xe xf xg xh xi xj xk xl xm xn xo xp xq xr xt xu xv xw xx xy xz xA xB xC xD xE xF xG xH xI xJ xK xL xM xN xO xP xQ xR xS xT xU xV xW xX xY xZ ya yb yc yd ye (.bool true) (.pointer (some ⟨g,o,none⟩)) (.pointer (some ⟨g,o,none⟩)) (.pointer (some ⟨g,o + 7,none⟩)) (.bool false) (.bool true) (.bool true) undef undef undef undef undef (.bool true) yt) hQ (fun w _ => by kernel_rfl) hS ?_
   refine take_r 61 ⟨some 79,.pick (.tmp 66) (.tmp 78) (.const (.bool false)),4,ps,#[⟨48,.data⟩,⟨60,.data⟩],none⟩ (.bool true) hQ (fun w _ => by kernel_rfl) hS ?_
   refine take_r 62 ⟨some 2,.assign (.tmp 79),4,ps,#[⟨61,.data⟩,⟨54,.chain⟩,⟨0,.phase⟩,⟨1,.phase⟩,⟨2,.phase⟩,⟨3,.phase⟩,⟨4,.phase⟩,⟨5,.phase⟩,⟨6,.phase⟩,⟨7,.phase⟩,⟨8,.phase⟩,⟨9,.phase⟩,⟨10,.phase⟩,⟨11,.phase⟩,⟨12,.phase⟩,⟨13,.phase⟩,⟨14,.phase⟩,⟨15,.phase⟩,⟨16,.phase⟩,⟨17,.phase⟩,⟨18,.phase⟩,⟨19,.phase⟩,⟨20,.phase⟩,⟨21,.phase⟩,⟨22,.phase⟩,⟨23,.phase⟩,⟨24,.phase⟩,⟨25,.phase⟩,⟨26,.phase⟩,⟨27,.phase⟩,⟨28,.phase⟩,⟨29,.phase⟩,⟨30,.phase⟩,⟨31,.phase⟩,⟨32,.phase⟩,⟨33,.phase⟩,⟨34,.phase⟩,⟨35,.phase⟩,⟨36,.phase⟩,⟨37,.phase⟩,⟨38,.phase⟩,⟨39,.phase⟩,⟨40,.phase⟩,⟨41,.phase⟩,⟨42,.phase⟩,⟨43,.phase⟩,⟨44,.phase⟩,⟨45,.phase⟩,⟨46,.phase⟩,⟨47,.phase⟩,⟨48,.phase⟩,⟨49,.phase⟩,⟨50,.phase⟩,⟨51,.phase⟩,⟨52,.phase⟩,⟨53,.phase⟩,⟨54,.phase⟩,⟨55,.phase⟩,⟨56,.phase⟩,⟨57,.phase⟩,⟨58,.phase⟩,⟨59,.phase⟩,⟨60,.phase⟩,⟨61,.phase⟩],none⟩ (.bool true) hQ (fun w _ => by kernel_rfl) hS ?_
   exact wpAnyH_done (by kernel_rfl) (hq.out _ (by simp) _ _ _ _ _ _ _ _ _ _ _ _ _ _ _ _ _ _ _ _ _ _ _ _ _ _ _ _ _ _ _ _ _ _ _ _ _ _ _ _ _ _ _ _ _ _ _ _ _ _ _ _ _ _ _ _ _ _ _ _ _ _ _ hS) _
  ·skip
   refine take_r 49 ⟨some 67,.move (.tmp 0),329,ps,#[⟨48,.guard⟩],some (48,true)⟩ (.pointer (some ⟨g,o,none⟩)) hQ (fun w _ => by kernel_rfl) hS ?_
   refine take_r 50 ⟨some 68,.nilCheck (.tmp 67),0,ps,#[⟨49,.data⟩,⟨48,.guard⟩],some (48,true)⟩ (.pointer (some ⟨g,o,none⟩)) hQ (fun w hS => by unfold fr55; go_simp) hS ?_
   refine take_r 51 ⟨some 69,.fieldAddr 125 (.tmp 68) 7,0,ps,#[⟨50,.data⟩,⟨48,.guard⟩],some (48,true)⟩ (.pointer (some ⟨g,o + 7,none⟩)) hQ (fun w hS => by unfold fr55; go_simp) hS ?_
   refine take_r 52 ⟨some 70,.load 4 (.tmp 69),4,ps,#[⟨51,.data⟩,⟨48,.guard⟩],some (48,true)⟩ (.bool true) hQ (fun w hS => by have e := hS.c7; unfold fr55; go_simp) hS ?_
   refine take_r 53 ⟨some 71,.unOp .not 4 (.tmp 70),4,ps,#[⟨52,.data⟩,⟨48,.guard⟩],some (48,true)⟩ (.bool false) hQ (fun w hS => by unfold fr55; go_simp) hS ?_
   refine take_k 54 (ops55_11_54 ps p1) (.bool false) (fr55 (.pointer (some ⟨g,o,none⟩)) v1 v2 (.int .i64 mw) (.int .i64 mg) (.int .i64 mc) v6 v7 v8 v9 xa xb xc xd xe xf xg xh xi xj xk xl xm xn xo xp xq xr xt xu xv xw xx xy xz xA xB xC xD xE xF xG xH xI xJ xK xL xM xN xO xP xQ xR xS xT xU xV xW xX xY xZ ya yb yc yd ye (.bool true) (.pointer (some ⟨g,o,none⟩)) (.pointer (some ⟨g,o,none⟩)) (.pointer (some ⟨g,o + 7,none⟩)) (.bool true) (.bool false) (.bool false) ym yn yo yp yq yr yt) hQ (fun w _ => by kernel_rfl) hS ?_
   refine take_r 55 ⟨some 73,.move (.tmp 0),329,ps,#[⟨54,.guard⟩],some (54,false)⟩ (.pointer (some ⟨g,o,none⟩)) hQ (fun w _ => by kernel_rfl) hS ?_
   refine take_r 56 ⟨some 74,.nilCheck (.tmp 73),0,ps,#[⟨55,.data⟩,⟨54,.guard⟩],some (54,false)⟩ (.pointer (some ⟨g,o,none⟩)) hQ (fun w hS => by unfold fr55; go_simp) hS ?_
   refine take_r 57 ⟨some 75,.fieldAddr 125 (.tmp 74) 0,0,ps,#[⟨56,.data⟩,⟨54,.guard⟩],some (54,false)⟩ (.pointer (some ⟨g,o,none⟩)) hQ (fun w hS => by unfold fr55; go_simp) hS ?_
   refine take_r 58 ⟨some 76,.load 3 (.tmp 75),3,ps,#[⟨57,.data⟩,⟨54,.guard⟩],some (54,false)⟩ (.int .i64 k) hQ (fun w hS => by have e := hS.c0; unfold fr55; go_simp) hS ?_
   refine take_r 59 ⟨some 77,.binOp .eql 3 (.tmp 76) (.const (.int .i64 3)) 3,4,ps,#[⟨58,.data⟩,⟨54,.guard⟩],some (54,false)⟩ (.bool (k == 3)) hQ (fun w hS => by unfold fr55; go_simp) hS ?_
   refine take_k 60 (ops55_11_60 ps p1) (.bool (k == 3)) (fr55 (.pointer (some ⟨g,o,none⟩)) v1 v2 (.int .i64 mw) (.int .i64 mg) (.int .i64 mc) v6 v7 v8 v9 xa xb xc xd xe xf xg xh xi xj xk xl xm xn xo xp xq xr xt xu xv xw xx xy xz xA xB xC xD xE xF xG xH xI xJ xK xL xM xN xO xP xQ xR xS xT xU xV xW xX xY xZ ya yb yc yd ye (.bool true) (.pointer (some ⟨g,o,none⟩)) (.pointer (some ⟨g,o,none⟩)) (.pointer (some ⟨g,o + 7,none⟩)) (.bool true) (.bool false) (.bool false) (.pointer (some ⟨g,o,none⟩)) (.pointer (some ⟨g,o,none⟩)) (.pointer (some ⟨g,o,none⟩)) (.int .i64 k) (.bool (k == 3)) (.bool (k == 3)) yt) hQ (fun w _ => by kernel_rfl) hS ?_
   refine take_r 61 ⟨some 79,.pick (.tmp 66) (.tmp 78) (.const (.bool false)),4,ps,#[⟨48,.data⟩,⟨60,.data⟩],none⟩ (.bool (k == 3)) hQ (fun w _ => by kernel_rfl) hS ?_
   refine take_r 62 ⟨some 2,.assign (.tmp 79),4,ps,#[⟨61,.data⟩,⟨54,.chain⟩,⟨0,.phase⟩,⟨1,.phase⟩,⟨2,.phase⟩,⟨3,.phase⟩,⟨4,.phase⟩,⟨5,.phase⟩,⟨6,.phase⟩,⟨7,.phase⟩,⟨8,.phase⟩,⟨9,.phase⟩,⟨10,.phase⟩,⟨11,.phase⟩,⟨12,.phase⟩,⟨13,.phase⟩,⟨14,.phase⟩,⟨15,.phase⟩,⟨16,.phase⟩,⟨17,.phase⟩,⟨18,.phase⟩,⟨19,.phase⟩,⟨20,.phase⟩,⟨21,.phase⟩,⟨22,.phase⟩,⟨23,.phase⟩,⟨24,.phase⟩,⟨25,.phase⟩,⟨26,.phase⟩,⟨27,.phase⟩,⟨28,.phase⟩,⟨29,.phase⟩,⟨30,.phase⟩,⟨31,.phase⟩,⟨32,.phase⟩,⟨33,.phase⟩,⟨34,.phase⟩,⟨35,.phase⟩,⟨36,.phase⟩,⟨37,.phase⟩,⟨38,.phase⟩,⟨39,.phase⟩,⟨40,.phase⟩,⟨41,.phase⟩,⟨42,.phase⟩,⟨43,.phase⟩,⟨44,.phase⟩,⟨45,.phase⟩,⟨46,.phase⟩,⟨47,.phase⟩,⟨48,.phase⟩,⟨49,.phase⟩,⟨50,.phase⟩,⟨51,.phase⟩,⟨52,.phase⟩,⟨53,.phase⟩,⟨54,.phase⟩,⟨55,.phase⟩,⟨56,.phase⟩,⟨57,.phase⟩,⟨58,.phase⟩,⟨59,.phase⟩,⟨60,.phase⟩,⟨61,.phase⟩],none⟩ (.bool (k == 3)) hQ (fun w _ => by kernel_rfl) hS ?_
   exact wpAnyH_done (by kernel_rfl) (hq.out _ (by simp) _ _ _ _ _ _ _ _ _ _ _ _ _ _ _ _ _ _ _ _ _ _ _ _ _ _ _ _ _ _ _ _ _ _ _ _ _ _ _ _ _ _ _ _ _ _ _ _ _ _ _ _ _ _ _ _ _ _ _ _ _ _ _ hS) _

theorem mb_r11_4 (Q : Exit → Act → World → Prop) (hQ : ∀ c x (n : Nat) v w,Q (.panic c) (x.put (some n) v) w → Q (.panic c) x w) (ps p1 : String) {v1 v2 v6 v7 v8 v9 xa xb xc xd xe xf xg xh xi xj xk xl xm xn xo xp xq xr xt xu xv xw xx xy xz xA xB xC xD xE xF xG xH xI xJ xK xL xM xN xO xP xQ xR xS xT xU xV xW xY xZ ya yb yc yd ye yf yg yh yi yj yk yl ym yn yo yp yq yr yt : Value} (g o : Nat) (mw mg mc k f t wd s h c : Int) (y q0 q1 q2 q3 : Bool) (z : World) (b : Bool) (w : World) (hS : ItAt z g o ⟨k,f,t,wd,s,h,c,y⟩ w)
  (hk0 : ∀ w : World,Calls Tryz.prog 281 #[.int .i64 wd,.int .i64 mw] w fun e w' => e = .returned (.bool q0) ∧ w' = w)
  (hk1 : ∀ w : World,Calls Tryz.prog 281 #[.int .i64 s,.int .i64 mg] w fun e w' => e = .returned (.bool q1) ∧ w' = w)
  (hk2 : ∀ w : World,Calls Tryz.prog 281 #[.int .i64 h,.int .i64 mg] w fun e w' => e = .returned (.bool q2) ∧ w' = w)
  (hk3 : ∀ w : World,Calls Tryz.prog 281 #[.int .i64 c,.int .i64 mc] w fun e w' => e = .returned (.bool q3) ∧ w' = w)
  (hq : Hid (∀ r,r = (b && (q3) && (!y || k == 3)) → ∀ u18 u19 u20 u21 u22 u23 u24 u25 u26 u27 u28 u29 u30 u31 u32 u33 u34 u35 u36 u37 u38 u39 u40 u41 u42 u43 u44 u45 u46 u47 u48 u49 u50 u51 u52 u53 u54 u55 u56 u57 u58 u59 u60 u61 u62 u63 u64 u65 u66 u67 u68 u69 u70 u71 u72 u73 u74 u75 u76 u77 u78 u79 w',ItAt z g o ⟨k,f,t,wd,s,h,c,y⟩ w' → Q .normal (fr55 (.pointer (some ⟨g,o,none⟩)) v1 (.bool r) (.int .i64 mw) (.int .i64 mg) (.int .i64 mc) v6 v7 v8 v9 xa xb xc xd xe xf xg xh u18 u19 u20 u21 u22 u23 u24 u25 u26 u27 u28 u29 u30 u31 u32 u33 u34 u35 u36 u37 u38 u39 u40 u41 u42 u43 u44 u45 u46 u47 u48 u49 u50 u51 u52 u53 u54 u55 u56 u57 u58 u59 u60 u61 u62 u63 u64 u65 u66 u67 u68 u69 u70 u71 u72 u73 u74 u75 u76 u77 u78 u79) w')) :
  wpAnyH Tryz.prog .any (ops55_11 ps p1) Q (ItAt z g o ⟨k,f,t,wd,s,h,c,y⟩) 22 #[true,true,true,true,true,true,true,true,true,true,true,true,true,true,true,true,true,true,true,true,true,true,true,true,true,true,true,true,true,true,true,true,true,true,true,true,true,true,true,true,true,false,false,false,false,false,false,false,false,false,false,false,false,false,false,false,false,false,false,false,false,false,false] (fr55 (.pointer (some ⟨g,o,none⟩)) v1 v2 (.int .i64 mw) (.int .i64 mg) (.int .i64 mc) v6 v7 v8 v9 xa xb xc xd xe xf xg xh xi xj xk xl xm xn xo xp xq xr xt xu xv xw xx xy xz xA xB xC xD xE xF xG xH xI xJ xK xL xM xN xO xP xQ xR xS xT xU xV xW (.bool b) xY xZ ya yb yc yd ye yf yg yh yi yj yk yl ym yn yo yp yq yr yt) w := by
 cases b
 ·skip
  refine skip_r 41 ⟨some 59,.move (.tmp 0),329,ps,#[⟨40,.guard⟩],some (40,true)⟩ hQ hS ?_
  refine skip_r 42 ⟨some 60,.nilCheck (.tmp 59),0,ps,#[⟨41,.data⟩,⟨40,.guard⟩],some (40,true)⟩ hQ hS ?_
  refine skip_r 43 ⟨some 61,.fieldAddr 125 (.tmp 60) 6,0,ps,#[⟨42,.data⟩,⟨40,.guard⟩],some (40,true)⟩ hQ hS ?_
  refine skip_r 44 ⟨some 62,.load 3 (.tmp 61),3,ps,#[⟨43,.data⟩,⟨40,.guard⟩],some (40,true)⟩ hQ hS ?_
  refine skip_r 45 ⟨some 63,.move (.tmp 5),3,ps,#[⟨40,.guard⟩],some (40,true)⟩ hQ hS ?_
  refine skip_k 46 (ops55_11_46 ps p1) (fr55 (.pointer (some ⟨g,o,none⟩)) v1 v2 (.int .i64 mw) (.int .i64 mg) (.int .i64 mc) v6 v7 v8 v9 xa xb xc xd xe xf xg xh xi xj xk xl xm xn xo xp xq xr xt xu xv xw xx xy xz xA xB xC xD xE xF xG xH xI xJ xK xL xM xN xO xP xQ xR xS xT xU xV xW (.bool false) undef undef undef undef undef undef ye yf yg yh yi yj yk yl ym yn yo yp yq yr yt) hQ hS ?_
  refine take_r 47 ⟨some 65,.pick (.tmp 58) (.tmp 64) (.const (.bool false)),4,ps,#[⟨40,.data⟩,⟨46,.data⟩],none⟩ (.bool false) hQ (fun w _ => by kernel_rfl) hS ?_
  refine take_r 48 ⟨some 66,.move (.tmp 65),4,ps,#[⟨47,.data⟩,⟨46,.chain⟩],none⟩ (.bool false) hQ (fun w _ => by kernel_rfl) hS ?_
  exact mb_r11_5 Q hQ ps p1 g o mw mg mc k f t wd s h c y q0 q1 q2 q3 z _ _ hS hk0 hk1 hk2 hk3 (fun r hr => hq.out r (by simpa using hr))
 ·skip
  refine take_r 41 ⟨some 59,.move (.tmp 0),329,ps,#[⟨40,.guard⟩],some (40,true)⟩ (.pointer (some ⟨g,o,none⟩)) hQ (fun w _ => by kernel_rfl) hS ?_
  refine take_r 42 ⟨some 60,.nilCheck (.tmp 59),0,ps,#[⟨41,.data⟩,⟨40,.guard⟩],some (40,true)⟩ (.pointer (some ⟨g,o,none⟩)) hQ (fun w hS => by unfold fr55; go_simp) hS ?_
  refine take_r 43 ⟨some 61,.fieldAddr 125 (.tmp 60) 6,0,ps,#[⟨42,.data⟩,⟨40,.guard⟩],some (40,true)⟩ (.pointer (some ⟨g,o + 6,none⟩)) hQ (fun w hS => by unfold fr55; go_simp) hS ?_
  refine take_r 44 ⟨some 62,.load 3 (.tmp 61),3,ps,#[⟨43,.data⟩,⟨40,.guard⟩],some (40,true)⟩ (.int .i64 c) hQ (fun w hS => by have e := hS.c6; unfold fr55; go_simp) hS ?_
  refine take_r 45 ⟨some 63,.move (.tmp 5),3,ps,#[⟨40,.guard⟩],some (40,true)⟩ (.int .i64 mc) hQ (fun w _ => by kernel_rfl) hS ?_
  refine want_k 46 (ops55_11_46 ps p1) fun K hK => ?_
  unfold fr55 ops55_11_46
  go_simp
  refine (hk3 _).mono ?_
  rintro e w' ⟨rfl,hww⟩
  subst w'
  refine hK _ _ hS (cast_h (fr55 (.pointer (some ⟨g,o,none⟩)) v1 v2 (.int .i64 mw) (.int .i64 mg) (.int .i64 mc) v6 v7 v8 v9 xa xb xc xd xe xf xg xh xi xj xk xl xm xn xo xp xq xr xt xu xv xw xx xy xz xA xB xC xD xE xF xG xH xI xJ xK xL xM xN xO xP xQ xR xS xT xU xV xW (.bool true) (.pointer (some ⟨g,o,none⟩)) (.pointer (some ⟨g,o,none⟩)) (.pointer (some ⟨g,o + 6,none⟩)) (.int .i64 c) (.int .i64 mc) (.bool q3) ye yf yg yh yi yj yk yl ym yn yo yp yq yr yt) (by kernel_rfl) ?_)
  clear hK K
  refine take_r 47 ⟨some 65,.pick (.tmp 58) (.tmp 64) (.const (.bool false)),4,ps,#[⟨40,.data⟩,⟨46,.data⟩],none⟩ (.bool q3) hQ (fun w _ => by kernel_rfl) hS ?_
  refine take_r 48 ⟨some 66,.move (.tmp 65),4,ps,#[⟨47,.data⟩,⟨46,.chain⟩],none⟩ (.bool q3) hQ (fun w _ => by kernel_rfl) hS ?_
  exact mb_r11_5 Q hQ ps p1 g o mw mg mc k f t wd s h c y q0 q1 q2 q3 z _ _ hS hk0 hk1 hk2 hk3 (fun r hr => hq.out r (by simpa using hr))

theorem mb_r11_3 (Q : Exit → Act → World → Prop) (hQ : ∀ c x (n : Nat) v w,Q (.panic c) (x.put (some n) v) w → Q (.panic c) x w) (ps p1 : String) {v1 v2 v6 v7 v8 v9 xa xb xc xd xe xf xg xh xi xj xk xl xm xn xo xp xq xr xt xu xv xw xx xy xz xA xB xC xD xE xF xG xH xI xJ xK xL xM xN xO xQ xR xS xT xU xV xW xX xY xZ ya yb yc yd ye yf yg yh yi yj yk yl ym yn yo yp yq yr yt : Value} (g o : Nat) (mw mg mc k f t wd s h c : Int) (y q0 q1 q2 q3 : Bool) (z : World) (b : Bool) (w : World) (hS : ItAt z g o ⟨k,f,t,wd,s,h,c,y⟩ w)
  (hk0 : ∀ w : World,Calls Tryz.prog 281 #[.int .i64 wd,.int .i64 mw] w fun e w' => e = .returned (.bool q0) ∧ w' = w)
  (hk1 : ∀ w : World,Calls Tryz.prog 281 #[.int .i64 s,.int .i64 mg] w fun e w' => e = .returned (.bool q1) ∧ w' = w)
  (hk2 : ∀ w : World,Calls Tryz.prog 281 #[.int .i64 h,.int .i64 mg] w fun e w' => e = .returned (.bool q2) ∧ w' = w)
  (hk3 : ∀ w : World,Calls Tryz.prog 281 #[.int .i64 c,.int .i64 mc] w fun e w' => e = .returned (.bool q3) ∧ w' = w)
  (hq : Hid (∀ r,r = (b && (q2) && (q3) && (!y || k == 3)) → ∀ u18 u19 u20 u21 u22 u23 u24 u25 u26 u27 u28 u29 u30 u31 u32 u33 u34 u35 u36 u37 u38 u39 u40 u41 u42 u43 u44 u45 u46 u47 u48 u49 u50 u51 u52 u53 u54 u55 u56 u57 u58 u59 u60 u61 u62 u63 u64 u65 u66 u67 u68 u69 u70 u71 u72 u73 u74 u75 u76 u77 u78 u79 w',ItAt z g o ⟨k,f,t,wd,s,h,c,y⟩ w' → Q .normal (fr55 (.pointer (some ⟨g,o,none⟩)) v1 (.bool r) (.int .i64 mw) (.int .i64 mg) (.int .i64 mc) v6 v7 v8 v9 xa xb xc xd xe xf xg xh u18 u19 u20 u21 u22 u23 u24 u25 u26 u27 u28 u29 u30 u31 u32 u33 u34 u35 u36 u37 u38 u39 u40 u41 u42 u43 u44 u45 u46 u47 u48 u49 u50 u51 u52 u53 u54 u55 u56 u57 u58 u59 u60 u61 u62 u63 u64 u65 u66 u67 u68 u69 u70 u71 u72 u73 u74 u75 u76 u77 u78 u79) w')) :
  wpAnyH Tryz.prog .any (ops55_11 ps p1) Q (ItAt z g o ⟨k,f,t,wd,s,h,c,y⟩) 30 #[true,true,true,true,true,true,true,true,true,true,true,true,true,true,true,true,true,true,true,true,true,true,true,true,true,true,true,true,true,true,true,true,true,false,false,false,false,false,false,false,false,false,false,false,false,false,false,false,false,false,false,false,false,false,false,false,false,false,false,false,false,false,false] (fr55 (.pointer (some ⟨g,o,none⟩)) v1 v2 (.int .i64 mw) (.int .i64 mg) (.int .i64 mc) v6 v7 v8 v9 xa xb xc xd xe xf xg xh xi xj xk xl xm xn xo xp xq xr xt xu xv xw xx xy xz xA xB xC xD xE xF xG xH xI xJ xK xL xM xN xO (.bool b) xQ xR xS xT xU xV xW xX xY xZ ya yb yc yd ye yf yg yh yi yj yk yl ym yn yo yp yq yr yt) w := by
 cases b
 ·skip
  refine skip_r 33 ⟨some 51,.move (.tmp 0),329,ps,#[⟨32,.guard⟩],some (32,true)⟩ hQ hS ?_
  refine skip_r 34 ⟨some 52,.nilCheck (.tmp 51),0,ps,#[⟨33,.data⟩,⟨32,.guard⟩],some (32,true)⟩ hQ hS ?_
  refine skip_r 35 ⟨some 53,.fieldAddr 125 (.tmp 52) 5,0,ps,#[⟨34,.data⟩,⟨32,.guard⟩],some (32,true)⟩ hQ hS ?_
  refine skip_r 36 ⟨some 54,.load 3 (.tmp 53),3,ps,#[⟨35,.data⟩,⟨32,.guard⟩],some (32,true)⟩ hQ hS ?_
  refine skip_r 37 ⟨some 55,.move (.tmp 4),3,ps,#[⟨32,.guard⟩],some (32,true)⟩ hQ hS ?_
  refine skip_k 38 (ops55_11_38 ps p1) (fr55 (.pointer (some ⟨g,o,none⟩)) v1 v2 (.int .i64 mw) (.int .i64 mg) (.int .i64 mc) v6 v7 v8 v9 xa xb xc xd xe xf xg xh xi xj xk xl xm xn xo xp xq xr xt xu xv xw xx xy xz xA xB xC xD xE xF xG xH xI xJ xK xL xM xN xO (.bool false) undef undef undef undef undef undef xW xX xY xZ ya yb yc yd ye yf yg yh yi yj yk yl ym yn yo yp yq yr yt) hQ hS ?_
  refine take_r 39 ⟨some 57,.pick (.tmp 50) (.tmp 56) (.const (.bool false)),4,ps,#[⟨32,.data⟩,⟨38,.data⟩],none⟩ (.bool false) hQ (fun w _ => by kernel_rfl) hS ?_
  refine take_r 40 ⟨some 58,.move (.tmp 57),4,ps,#[⟨39,.data⟩,⟨38,.chain⟩],none⟩ (.bool false) hQ (fun w _ => by kernel_rfl) hS ?_
  exact mb_r11_4 Q hQ ps p1 g o mw mg mc k f t wd s h c y q0 q1 q2 q3 z _ _ hS hk0 hk1 hk2 hk3 (fun r hr => hq.out r (by simpa using hr))
 ·skip
  refine take_r 33 ⟨some 51,.move (.tmp 0),329,ps,#[⟨32,.guard⟩],some (32,true)⟩ (.pointer (some ⟨g,o,none⟩)) hQ (fun w _ => by kernel_rfl) hS ?_
  refine take_r 34 ⟨some 52,.nilCheck (.tmp 51),0,ps,#[⟨33,.data⟩,⟨32,.guard⟩],some (32,true)⟩ (.pointer (some ⟨g,o,none⟩)) hQ (fun w hS => by unfold fr55; go_simp) hS ?_
  refine take_r 35 ⟨some 53,.fieldAddr 125 (.tmp 52) 5,0,ps,#[⟨34,.data⟩,⟨32,.guard⟩],some (32,true)⟩ (.pointer (some ⟨g,o + 5,none⟩)) hQ (fun w hS => by unfold fr55; go_simp) hS ?_
  refine take_r 36 ⟨some 54,.load 3 (.tmp 53),3,ps,#[⟨35,.data⟩,⟨32,.guard⟩],some (32,true)⟩ (.int .i64 h) hQ (fun w hS => by have e := hS.c5; unfold fr55; go_simp) hS ?_
  refine take_r 37 ⟨some 55,.move (.tmp 4),3,ps,#[⟨32,.guard⟩],some (32,true)⟩ (.int .i64 mg) hQ (fun w _ => by kernel_rfl) hS ?_
  refine want_k 38 (ops55_11_38 ps p1) fun K hK => ?_
  unfold fr55 ops55_11_38
  go_simp
  refine (hk2 _).mono ?_
  rintro e w' ⟨rfl,hww⟩
  subst w'
  refine hK _ _ hS (cast_h (fr55 (.pointer (some ⟨g,o,none⟩)) v1 v2 (.int .i64 mw) (.int .i64 mg) (.int .i64 mc) v6 v7 v8 v9 xa xb xc xd xe xf xg xh xi xj xk xl xm xn xo xp xq xr xt xu xv xw xx xy xz xA xB xC xD xE xF xG xH xI xJ xK xL xM xN xO (.bool true) (.pointer (some ⟨g,o,none⟩)) (.pointer (some ⟨g,o,none⟩)) (.pointer (some ⟨g,o + 5,none⟩)) (.int .i64 h) (.int .i64 mg) (.bool q2) xW xX xY xZ ya yb yc yd ye yf yg yh yi yj yk yl ym yn yo yp yq yr yt) (by kernel_rfl) ?_)
  clear hK K
  refine take_r 39 ⟨some 57,.pick (.tmp 50) (.tmp 56) (.const (.bool false)),4,ps,#[⟨32,.data⟩,⟨38,.data⟩],none⟩ (.bool q2) hQ (fun w _ => by kernel_rfl) hS ?_
  refine take_r 40 ⟨some 58,.move (.tmp 57),4,ps,#[⟨39,.data⟩,⟨38,.chain⟩],none⟩ (.bool q2) hQ (fun w _ => by kernel_rfl) hS ?_
  exact mb_r11_4 Q hQ ps p1 g o mw mg mc k f t wd s h c y q0 q1 q2 q3 z _ _ hS hk0 hk1 hk2 hk3 (fun r hr => hq.out r (by simpa using hr))

theorem mb_r11_2 (Q : Exit → Act → World → Prop) (hQ : ∀ c x (n : Nat) v w,Q (.panic c) (x.put (some n) v) w → Q (.panic c) x w) (ps p1 : String) {v1 v2 v6 v7 v8 v9 xa xb xc xd xe xf xg xh xi xj xk xl xm xn xo xp xq xr xt xu xv xw xx xy xz xA xB xC xD xE xF xG xI xJ xK xL xM xN xO xP xQ xR xS xT xU xV xW xX xY xZ ya yb yc yd ye yf yg yh yi yj yk yl ym yn yo yp yq yr yt : Value} (g o : Nat) (mw mg mc k f t wd s h c : Int) (y q0 q1 q2 q3 : Bool) (z : World) (b : Bool) (w : World) (hS : ItAt z g o ⟨k,f,t,wd,s,h,c,y⟩ w)
  (hk0 : ∀ w : World,Calls Tryz.prog 281 #[.int .i64 wd,.int .i64 mw] w fun e w' => e = .returned (.bool q0) ∧ w' = w)
  (hk1 : ∀ w : World,Calls Tryz.prog 281 #[.int .i64 s,.int .i64 mg] w fun e w' => e = .returned (.bool q1) ∧ w' = w)
  (hk2 : ∀ w : World,Calls Tryz.prog 281 #[.int .i64 h,.int .i64 mg] w fun e w' => e = .returned (.bool q2) ∧ w' = w)
  (hk3 : ∀ w : World,Calls Tryz.prog 281 #[.int .i64 c,.int .i64 mc] w fun e w' => e = .returned (.bool q3) ∧ w' = w)
  (hq : Hid (∀ r,r = (b && (q1) && (q2) && (q3) && (!y || k == 3)) → ∀ u18 u19 u20 u21 u22 u23 u24 u25 u26 u27 u28 u29 u30 u31 u32 u33 u34 u35 u36 u37 u38 u39 u40 u41 u42 u43 u44 u45 u46 u47 u48 u49 u50 u51 u52 u53 u54 u55 u56 u57 u58 u59 u60 u61 u62 u63 u64 u65 u66 u67 u68 u69 u70 u71 u72 u73 u74 u75 u76 u77 u78 u79 w',ItAt z g o ⟨k,f,t,wd,s,h,c,y⟩ w' → Q .normal (fr55 (.pointer (some ⟨g,o,none⟩)) v1 (.bool r) (.int .i64 mw) (.int .i64 mg) (.int .i64 mc) v6 v7 v8 v9 xa xb xc xd xe xf xg xh u18 u19 u20 u21 u22 u23 u24 u25 u26 u27 u28 u29 u30 u31 u32 u33 u34 u35 u36 u37 u38 u39 u40 u41 u42 u43 u44 u45 u46 u47 u48 u49 u50 u51 u52 u53 u54 u55 u56 u57 u58 u59 u60 u61 u62 u63 u64 u65 u66 u67 u68 u69 u70 u71 u72 u73 u74 u75 u76 u77 u78 u79) w')) :
  wpAnyH Tryz.prog .any (ops55_11 ps p1) Q (ItAt z g o ⟨k,f,t,wd,s,h,c,y⟩) 38 #[true,true,true,true,true,true,true,true,true,true,true,true,true,true,true,true,true,true,true,true,true,true,true,true,true,false,false,false,false,false,false,false,false,false,false,false,false,false,false,false,false,false,false,false,false,false,false,false,false,false,false,false,false,false,false,false,false,false,false,false,false,false,false] (fr55 (.pointer (some ⟨g,o,none⟩)) v1 v2 (.int .i64 mw) (.int .i64 mg) (.int .i64 mc) v6 v7 v8 v9 xa xb xc xd xe xf xg xh xi xj xk xl xm xn xo xp xq xr xt xu xv xw xx xy xz xA xB xC xD xE xF xG (.bool b) xI xJ xK xL xM xN xO xP xQ xR xS xT xU xV xW xX xY xZ ya yb yc yd ye yf yg yh yi yj yk yl ym yn yo yp yq yr yt) w := by
 cases b
 ·skip
  refine skip_r 25 ⟨some 43,.move (.tmp 0),329,ps,#[⟨24,.guard⟩],some (24,true)⟩ hQ hS ?_
  refine skip_r 26 ⟨some 44,.nilCheck (.tmp 43),0,ps,#[⟨25,.data⟩,⟨24,.guard⟩],some (24,true)⟩ hQ hS ?_
  refine skip_r 27 ⟨some 45,.fieldAddr 125 (.tmp 44) 4,0,ps,#[⟨26,.data⟩,⟨24,.guard⟩],some (24,true)⟩ hQ hS ?_
  refine skip_r 28 ⟨some 46,.load 3 (.tmp 45),3,ps,#[⟨27,.data⟩,⟨24,.guard⟩],some (24,true)⟩ hQ hS ?_
  refine skip_r 29 ⟨some 47,.move (.tmp 4),3,ps,#[⟨24,.guard⟩],some (24,true)⟩ hQ hS ?_
  refine skip_k 30 (ops55_11_30 ps p1) (fr55 (.pointer (some ⟨g,o,none⟩)) v1 v2 (.int .i64 mw) (.int .i64 mg) (.int .i64 mc) v6 v7 v8 v9 xa xb xc xd xe xf xg xh xi xj xk xl xm xn xo xp xq xr xt xu xv xw xx xy xz xA xB xC xD xE xF xG (.bool false) undef undef undef undef undef undef xO xP xQ xR xS xT xU xV xW xX xY xZ ya yb yc yd ye yf yg yh yi yj yk yl ym yn yo yp yq yr yt) hQ hS ?_
  refine take_r 31 ⟨some 49,.pick (.tmp 42) (.tmp 48) (.const (.bool false)),4,ps,#[⟨24,.data⟩,⟨30,.data⟩],none⟩ (.bool false) hQ (fun w _ => by kernel_rfl) hS ?_
  refine take_r 32 ⟨some 50,.move (.tmp 49),4,ps,#[⟨31,.data⟩,⟨30,.chain⟩],none⟩ (.bool false) hQ (fun w _ => by kernel_rfl) hS ?_
  exact mb_r11_3 Q hQ ps p1 g o mw mg mc k f t wd s h c y q0 q1 q2 q3 z _ _ hS hk0 hk1 hk2 hk3 (fun r hr => hq.out r (by simpa using hr))
 ·skip
  refine take_r 25 ⟨some 43,.move (.tmp 0),329,ps,#[⟨24,.guard⟩],some (24,true)⟩ (.pointer (some ⟨g,o,none⟩)) hQ (fun w _ => by kernel_rfl) hS ?_
  refine take_r 26 ⟨some 44,.nilCheck (.tmp 43),0,ps,#[⟨25,.data⟩,⟨24,.guard⟩],some (24,true)⟩ (.pointer (some ⟨g,o,none⟩)) hQ (fun w hS => by unfold fr55; go_simp) hS ?_
  refine take_r 27 ⟨some 45,.fieldAddr 125 (.tmp 44) 4,0,ps,#[⟨26,.data⟩,⟨24,.guard⟩],some (24,true)⟩ (.pointer (some ⟨g,o + 4,none⟩)) hQ (fun w hS => by unfold fr55; go_simp) hS ?_
  refine take_r 28 ⟨some 46,.load 3 (.tmp 45),3,ps,#[⟨27,.data⟩,⟨24,.guard⟩],some (24,true)⟩ (.int .i64 s) hQ (fun w hS => by have e := hS.c4; unfold fr55; go_simp) hS ?_
  refine take_r 29 ⟨some 47,.move (.tmp 4),3,ps,#[⟨24,.guard⟩],some (24,true)⟩ (.int .i64 mg) hQ (fun w _ => by kernel_rfl) hS ?_
  refine want_k 30 (ops55_11_30 ps p1) fun K hK => ?_
  unfold fr55 ops55_11_30
  go_simp
  refine (hk1 _).mono ?_
  rintro e w' ⟨rfl,hww⟩
  subst w'
  refine hK _ _ hS (cast_h (fr55 (.pointer (some ⟨g,o,none⟩)) v1 v2 (.int .i64 mw) (.int .i64 mg) (.int .i64 mc) v6 v7 v8 v9 xa xb xc xd xe xf xg xh xi xj xk xl xm xn xo xp xq xr xt xu xv xw xx xy xz xA xB xC xD xE xF xG (.bool true) (.pointer (some ⟨g,o,none⟩)) (.pointer (some ⟨g,o,none⟩)) (.pointer (some ⟨g,o + 4,none⟩)) (.int .i64 s) (.int .i64 mg) (.bool q1) xO xP xQ xR xS xT xU xV xW xX xY xZ ya yb yc yd ye yf yg yh yi yj yk yl ym yn yo yp yq yr yt) (by kernel_rfl) ?_)
  clear hK K
  refine take_r 31 ⟨some 49,.pick (.tmp 42) (.tmp 48) (.const (.bool false)),4,ps,#[⟨24,.data⟩,⟨30,.data⟩],none⟩ (.bool q1) hQ (fun w _ => by kernel_rfl) hS ?_
  refine take_r 32 ⟨some 50,.move (.tmp 49),4,ps,#[⟨31,.data⟩,⟨30,.chain⟩],none⟩ (.bool q1) hQ (fun w _ => by kernel_rfl) hS ?_
  exact mb_r11_3 Q hQ ps p1 g o mw mg mc k f t wd s h c y q0 q1 q2 q3 z _ _ hS hk0 hk1 hk2 hk3 (fun r hr => hq.out r (by simpa using hr))

theorem mb_r11_1 (Q : Exit → Act → World → Prop) (hQ : ∀ c x (n : Nat) v w,Q (.panic c) (x.put (some n) v) w → Q (.panic c) x w) (ps p1 : String) {v1 v2 v6 v7 v8 v9 xa xb xc xd xe xf xg xh xi xj xk xl xm xn xo xp xq xr xt xu xv xw xx xy xA xB xC xD xE xF xG xH xI xJ xK xL xM xN xO xP xQ xR xS xT xU xV xW xX xY xZ ya yb yc yd ye yf yg yh yi yj yk yl ym yn yo yp yq yr yt : Value} (g o : Nat) (mw mg mc k f t wd s h c : Int) (y q0 q1 q2 q3 : Bool) (z : World) (b : Bool) (w : World) (hS : ItAt z g o ⟨k,f,t,wd,s,h,c,y⟩ w)
  (hk0 : ∀ w : World,Calls Tryz.prog 281 #[.int .i64 wd,.int .i64 mw] w fun e w' => e = .returned (.bool q0) ∧ w' = w)
  (hk1 : ∀ w : World,Calls Tryz.prog 281 #[.int .i64 s,.int .i64 mg] w fun e w' => e = .returned (.bool q1) ∧ w' = w)
  (hk2 : ∀ w : World,Calls Tryz.prog 281 #[.int .i64 h,.int .i64 mg] w fun e w' => e = .returned (.bool q2) ∧ w' = w)
  (hk3 : ∀ w : World,Calls Tryz.prog 281 #[.int .i64 c,.int .i64 mc] w fun e w' => e = .returned (.bool q3) ∧ w' = w)
  (hq : Hid (∀ r,r = (b && (q0) && (q1) && (q2) && (q3) && (!y || k == 3)) → ∀ u18 u19 u20 u21 u22 u23 u24 u25 u26 u27 u28 u29 u30 u31 u32 u33 u34 u35 u36 u37 u38 u39 u40 u41 u42 u43 u44 u45 u46 u47 u48 u49 u50 u51 u52 u53 u54 u55 u56 u57 u58 u59 u60 u61 u62 u63 u64 u65 u66 u67 u68 u69 u70 u71 u72 u73 u74 u75 u76 u77 u78 u79 w',ItAt z g o ⟨k,f,t,wd,s,h,c,y⟩ w' → Q .normal (fr55 (.pointer (some ⟨g,o,none⟩)) v1 (.bool r) (.int .i64 mw) (.int .i64 mg) (.int .i64 mc) v6 v7 v8 v9 xa xb xc xd xe xf xg xh u18 u19 u20 u21 u22 u23 u24 u25 u26 u27 u28 u29 u30 u31 u32 u33 u34 u35 u36 u37 u38 u39 u40 u41 u42 u43 u44 u45 u46 u47 u48 u49 u50 u51 u52 u53 u54 u55 u56 u57 u58 u59 u60 u61 u62 u63 u64 u65 u66 u67 u68 u69 u70 u71 u72 u73 u74 u75 u76 u77 u78 u79) w')) :
  wpAnyH Tryz.prog .any (ops55_11 ps p1) Q (ItAt z g o ⟨k,f,t,wd,s,h,c,y⟩) 46 #[true,true,true,true,true,true,true,true,true,true,true,true,true,true,true,true,true,false,false,false,false,false,false,false,false,false,false,false,false,false,false,false,false,false,false,false,false,false,false,false,false,false,false,false,false,false,false,false,false,false,false,false,false,false,false,false,false,false,false,false,false,false,false] (fr55 (.pointer (some ⟨g,o,none⟩)) v1 v2 (.int .i64 mw) (.int .i64 mg) (.int .i64 mc) v6 v7 v8 v9 xa xb xc xd xe xf xg xh xi xj xk xl xm xn xo xp xq xr xt xu xv xw xx xy (.bool b) xA xB xC xD xE xF xG xH xI xJ xK xL xM xN xO xP xQ xR xS xT xU xV xW xX xY xZ ya yb yc yd ye yf yg yh yi yj yk yl ym yn yo yp yq yr yt) w := by
 cases b
 ·skip
  refine skip_r 17 ⟨some 35,.move (.tmp 0),329,ps,#[⟨16,.guard⟩],some (16,true)⟩ hQ hS ?_
  refine skip_r 18 ⟨some 36,.nilCheck (.tmp 35),0,ps,#[⟨17,.data⟩,⟨16,.guard⟩],some (16,true)⟩ hQ hS ?_
  refine skip_r 19 ⟨some 37,.fieldAddr 125 (.tmp 36) 3,0,ps,#[⟨18,.data⟩,⟨16,.guard⟩],some (16,true)⟩ hQ hS ?_
  refine skip_r 20 ⟨some 38,.load 3 (.tmp 37),3,ps,#[⟨19,.data⟩,⟨16,.guard⟩],some (16,true)⟩ hQ hS ?_
  refine skip_r 21 ⟨some 39,.move (.tmp 3),3,ps,#[⟨16,.guard⟩],some (16,true)⟩ hQ hS ?_
  refine skip_k 22 (ops55_11_22 ps p1) (fr55 (.pointer (some ⟨g,o,none⟩)) v1 v2 (.int .i64 mw) (.int .i64 mg) (.int .i64 mc) v6 v7 v8 v9 xa xb xc xd xe xf xg xh xi xj xk xl xm xn xo xp xq xr xt xu xv xw xx xy (.bool false) undef undef undef undef undef undef xG xH xI xJ xK xL xM xN xO xP xQ xR xS xT xU xV xW xX xY xZ ya yb yc yd ye yf yg yh yi yj yk yl ym yn yo yp yq yr yt) hQ hS ?_
  refine take_r 23 ⟨some 41,.pick (.tmp 34) (.tmp 40) (.const (.bool false)),4,ps,#[⟨16,.data⟩,⟨22,.data⟩],none⟩ (.bool false) hQ (fun w _ => by kernel_rfl) hS ?_
  refine take_r 24 ⟨some 42,.move (.tmp 41),4,ps,#[⟨23,.data⟩,⟨22,.chain⟩],none⟩ (.bool false) hQ (fun w _ => by kernel_rfl) hS ?_
  exact mb_r11_2 Q hQ ps p1 g o mw mg mc k f t wd s h c y q0 q1 q2 q3 z _ _ hS hk0 hk1 hk2 hk3 (fun r hr => hq.out r (by simpa using hr))
 ·skip
  refine take_r 17 ⟨some 35,.move (.tmp 0),329,ps,#[⟨16,.guard⟩],some (16,true)⟩ (.pointer (some ⟨g,o,none⟩)) hQ (fun w _ => by kernel_rfl) hS ?_
  refine take_r 18 ⟨some 36,.nilCheck (.tmp 35),0,ps,#[⟨17,.data⟩,⟨16,.guard⟩],some (16,true)⟩ (.pointer (some ⟨g,o,none⟩)) hQ (fun w hS => by unfold fr55; go_simp) hS ?_
  refine take_r 19 ⟨some 37,.fieldAddr 125 (.tmp 36) 3,0,ps,#[⟨18,.data⟩,⟨16,.guard⟩],some (16,true)⟩ (.pointer (some ⟨g,o + 3,none⟩)) hQ (fun w hS => by unfold fr55; go_simp) hS ?_
  refine take_r 20 ⟨some 38,.load 3 (.tmp 37),3,ps,#[⟨19,.data⟩,⟨16,.guard⟩],some (16,true)⟩ (.int .i64 wd) hQ (fun w hS => by have e := hS.c3; unfold fr55; go_simp) hS ?_
  refine take_r 21 ⟨some 39,.move (.tmp 3),3,ps,#[⟨16,.guard⟩],some (16,true)⟩ (.int .i64 mw) hQ (fun w _ => by kernel_rfl) hS ?_
  refine want_k 22 (ops55_11_22 ps p1) fun K hK => ?_
  unfold fr55 ops55_11_22
  go_simp
  refine (hk0 _).mono ?_
  rintro e w' ⟨rfl,hww⟩
  subst w'
  refine hK _ _ hS (cast_h (fr55 (.pointer (some ⟨g,o,none⟩)) v1 v2 (.int .i64 mw) (.int .i64 mg) (.int .i64 mc) v6 v7 v8 v9 xa xb xc xd xe xf xg xh xi xj xk xl xm xn xo xp xq xr xt xu xv xw xx xy (.bool true) (.pointer (some ⟨g,o,none⟩)) (.pointer (some ⟨g,o,none⟩)) (.pointer (some ⟨g,o + 3,none⟩)) (.int .i64 wd) (.int .i64 mw) (.bool q0) xG xH xI xJ xK xL xM xN xO xP xQ xR xS xT xU xV xW xX xY xZ ya yb yc yd ye yf yg yh yi yj yk yl ym yn yo yp yq yr yt) (by kernel_rfl) ?_)
  clear hK K
  refine take_r 23 ⟨some 41,.pick (.tmp 34) (.tmp 40) (.const (.bool false)),4,ps,#[⟨16,.data⟩,⟨22,.data⟩],none⟩ (.bool q0) hQ (fun w _ => by kernel_rfl) hS ?_
  refine take_r 24 ⟨some 42,.move (.tmp 41),4,ps,#[⟨23,.data⟩,⟨22,.chain⟩],none⟩ (.bool q0) hQ (fun w _ => by kernel_rfl) hS ?_
  exact mb_r11_2 Q hQ ps p1 g o mw mg mc k f t wd s h c y q0 q1 q2 q3 z _ _ hS hk0 hk1 hk2 hk3 (fun r hr => hq.out r (by simpa using hr))

theorem mb_r11_0 (Q : Exit → Act → World → Prop) (hQ : ∀ c x (n : Nat) v w,Q (.panic c) (x.put (some n) v) w → Q (.panic c) x w) (ps p1 : String) {v1 v2 v6 v7 v8 v9 xa xb xc xd xe xf xg xh xi xj xk xl xm xo xp xq xr xt xu xv xw xx xy xz xA xB xC xD xE xF xG xH xI xJ xK xL xM xN xO xP xQ xR xS xT xU xV xW xX xY xZ ya yb yc yd ye yf yg yh yi yj yk yl ym yn yo yp yq yr yt : Value} (g o : Nat) (mw mg mc k f t wd s h c : Int) (y q0 q1 q2 q3 : Bool) (z : World) (b : Bool) (w : World) (hS : ItAt z g o ⟨k,f,t,wd,s,h,c,y⟩ w)
  (hk0 : ∀ w : World,Calls Tryz.prog 281 #[.int .i64 wd,.int .i64 mw] w fun e w' => e = .returned (.bool q0) ∧ w' = w)
  (hk1 : ∀ w : World,Calls Tryz.prog 281 #[.int .i64 s,.int .i64 mg] w fun e w' => e = .returned (.bool q1) ∧ w' = w)
  (hk2 : ∀ w : World,Calls Tryz.prog 281 #[.int .i64 h,.int .i64 mg] w fun e w' => e = .returned (.bool q2) ∧ w' = w)
  (hk3 : ∀ w : World,Calls Tryz.prog 281 #[.int .i64 c,.int .i64 mc] w fun e w' => e = .returned (.bool q3) ∧ w' = w)
  (hq : Hid (∀ r,r = (b && (decide (f ≤ t)) && (q0) && (q1) && (q2) && (q3) && (!y || k == 3)) → ∀ u18 u19 u20 u21 u22 u23 u24 u25 u26 u27 u28 u29 u30 u31 u32 u33 u34 u35 u36 u37 u38 u39 u40 u41 u42 u43 u44 u45 u46 u47 u48 u49 u50 u51 u52 u53 u54 u55 u56 u57 u58 u59 u60 u61 u62 u63 u64 u65 u66 u67 u68 u69 u70 u71 u72 u73 u74 u75 u76 u77 u78 u79 w',ItAt z g o ⟨k,f,t,wd,s,h,c,y⟩ w' → Q .normal (fr55 (.pointer (some ⟨g,o,none⟩)) v1 (.bool r) (.int .i64 mw) (.int .i64 mg) (.int .i64 mc) v6 v7 v8 v9 xa xb xc xd xe xf xg xh u18 u19 u20 u21 u22 u23 u24 u25 u26 u27 u28 u29 u30 u31 u32 u33 u34 u35 u36 u37 u38 u39 u40 u41 u42 u43 u44 u45 u46 u47 u48 u49 u50 u51 u52 u53 u54 u55 u56 u57 u58 u59 u60 u61 u62 u63 u64 u65 u66 u67 u68 u69 u70 u71 u72 u73 u74 u75 u76 u77 u78 u79) w')) :
  wpAnyH Tryz.prog .any (ops55_11 ps p1) Q (ItAt z g o ⟨k,f,t,wd,s,h,c,y⟩) 57 #[true,true,true,true,true,true,false,false,false,false,false,false,false,false,false,false,false,false,false,false,false,false,false,false,false,false,false,false,false,false,false,false,false,false,false,false,false,false,false,false,false,false,false,false,false,false,false,false,false,false,false,false,false,false,false,false,false,false,false,false,false,false,false] (fr55 (.pointer (some ⟨g,o,none⟩)) v1 v2 (.int .i64 mw) (.int .i64 mg) (.int .i64 mc) v6 v7 v8 v9 xa xb xc xd xe xf xg xh xi xj xk xl xm (.bool b) xo xp xq xr xt xu xv xw xx xy xz xA xB xC xD xE xF xG xH xI xJ xK xL xM xN xO xP xQ xR xS xT xU xV xW xX xY xZ ya yb yc yd ye yf yg yh yi yj yk yl ym yn yo yp yq yr yt) w := by
 cases b
 ·skip
  refine skip_r 6 ⟨some 24,.move (.tmp 0),329,ps,#[⟨5,.guard⟩],some (5,true)⟩ hQ hS ?_
  refine skip_r 7 ⟨some 25,.nilCheck (.tmp 24),0,ps,#[⟨6,.data⟩,⟨5,.guard⟩],some (5,true)⟩ hQ hS ?_
  refine skip_r 8 ⟨some 26,.fieldAddr 125 (.tmp 25) 2,0,ps,#[⟨7,.data⟩,⟨5,.guard⟩],some (5,true)⟩ hQ hS ?_
  refine skip_r 9 ⟨some 27,.load 3 (.tmp 26),3,ps,#[⟨8,.data⟩,⟨5,.guard⟩],some (5,true)⟩ hQ hS ?_
  refine skip_r 10 ⟨some 28,.move (.tmp 0),329,ps,#[⟨5,.guard⟩],some (5,true)⟩ hQ hS ?_
  refine skip_k 11 (ops55_11_11 ps p1) (fr55 (.pointer (some ⟨g,o,none⟩)) v1 v2 (.int .i64 mw) (.int .i64 mg) (.int .i64 mc) v6 v7 v8 v9 xa xb xc xd xe xf xg xh xi xj xk xl xm (.bool false) undef undef undef undef undef undef xv xw xx xy xz xA xB xC xD xE xF xG xH xI xJ xK xL xM xN xO xP xQ xR xS xT xU xV xW xX xY xZ ya yb yc yd ye yf yg yh yi yj yk yl ym yn yo yp yq yr yt) hQ hS ?_
  refine skip_r 12 ⟨some 30,.fieldAddr 125 (.tmp 29) 1,0,ps,#[⟨11,.data⟩,⟨5,.guard⟩],some (5,true)⟩ hQ hS ?_
  refine skip_r 13 ⟨some 31,.load 3 (.tmp 30),3,ps,#[⟨12,.data⟩,⟨5,.guard⟩],some (5,true)⟩ hQ hS ?_
  refine skip_r 14 ⟨some 32,.binOp .geq 3 (.tmp 27) (.tmp 31) 3,4,ps,#[⟨9,.data⟩,⟨13,.data⟩,⟨5,.guard⟩],some (5,true)⟩ hQ hS ?_
  refine take_r 15 ⟨some 33,.pick (.tmp 23) (.tmp 32) (.const (.bool false)),4,ps,#[⟨5,.data⟩,⟨14,.data⟩],none⟩ (.bool false) hQ (fun w _ => by kernel_rfl) hS ?_
  refine take_r 16 ⟨some 34,.move (.tmp 33),4,ps,#[⟨15,.data⟩,⟨5,.chain⟩],none⟩ (.bool false) hQ (fun w _ => by kernel_rfl) hS ?_
  exact mb_r11_1 Q hQ ps p1 g o mw mg mc k f t wd s h c y q0 q1 q2 q3 z _ _ hS hk0 hk1 hk2 hk3 (fun r hr => hq.out r (by simpa using hr))
 ·skip
  refine take_r 6 ⟨some 24,.move (.tmp 0),329,ps,#[⟨5,.guard⟩],some (5,true)⟩ (.pointer (some ⟨g,o,none⟩)) hQ (fun w _ => by kernel_rfl) hS ?_
  refine take_r 7 ⟨some 25,.nilCheck (.tmp 24),0,ps,#[⟨6,.data⟩,⟨5,.guard⟩],some (5,true)⟩ (.pointer (some ⟨g,o,none⟩)) hQ (fun w hS => by unfold fr55; go_simp) hS ?_
  refine take_r 8 ⟨some 26,.fieldAddr 125 (.tmp 25) 2,0,ps,#[⟨7,.data⟩,⟨5,.guard⟩],some (5,true)⟩ (.pointer (some ⟨g,o + 2,none⟩)) hQ (fun w hS => by unfold fr55; go_simp) hS ?_
  refine take_r 9 ⟨some 27,.load 3 (.tmp 26),3,ps,#[⟨8,.data⟩,⟨5,.guard⟩],some (5,true)⟩ (.int .i64 t) hQ (fun w hS => by have e := hS.c2; unfold fr55; go_simp) hS ?_
  refine take_r 10 ⟨some 28,.move (.tmp 0),329,ps,#[⟨5,.guard⟩],some (5,true)⟩ (.pointer (some ⟨g,o,none⟩)) hQ (fun w _ => by kernel_rfl) hS ?_
  refine take_k 11 (ops55_11_11 ps p1) (.pointer (some ⟨g,o,none⟩)) (fr55 (.pointer (some ⟨g,o,none⟩)) v1 v2 (.int .i64 mw) (.int .i64 mg) (.int .i64 mc) v6 v7 v8 v9 xa xb xc xd xe xf xg xh xi xj xk xl xm (.bool true) (.pointer (some ⟨g,o,none⟩)) (.pointer (some ⟨g,o,none⟩)) (.pointer (some ⟨g,o + 2,none⟩)) (.int .i64 t) (.pointer (some ⟨g,o,none⟩)) (.pointer (some ⟨g,o,none⟩)) xv xw xx xy xz xA xB xC xD xE xF xG xH xI xJ xK xL xM xN xO xP xQ xR xS xT xU xV xW xX xY xZ ya yb yc yd ye yf yg yh yi yj yk yl ym yn yo yp yq yr yt) hQ (fun w hS => by unfold fr55 ops55_11_11; go_simp) hS ?_
  refine take_r 12 ⟨some 30,.fieldAddr 125 (.tmp 29) 1,0,ps,#[⟨11,.data⟩,⟨5,.guard⟩],some (5,true)⟩ (.pointer (some ⟨g,o + 1,none⟩)) hQ (fun w hS => by unfold fr55; go_simp) hS ?_
  refine take_r 13 ⟨some 31,.load 3 (.tmp 30),3,ps,#[⟨12,.data⟩,⟨5,.guard⟩],some (5,true)⟩ (.int .i64 f) hQ (fun w hS => by have e := hS.c1; unfold fr55; go_simp) hS ?_
  refine take_r 14 ⟨some 32,.binOp .geq 3 (.tmp 27) (.tmp 31) 3,4,ps,#[⟨9,.data⟩,⟨13,.data⟩,⟨5,.guard⟩],some (5,true)⟩ (.bool (decide (f ≤ t))) hQ (fun w hS => by unfold fr55; go_simp) hS ?_
  refine take_r 15 ⟨some 33,.pick (.tmp 23) (.tmp 32) (.const (.bool false)),4,ps,#[⟨5,.data⟩,⟨14,.data⟩],none⟩ (.bool (decide (f ≤ t))) hQ (fun w _ => by kernel_rfl) hS ?_
  refine take_r 16 ⟨some 34,.move (.tmp 33),4,ps,#[⟨15,.data⟩,⟨5,.chain⟩],none⟩ (.bool (decide (f ≤ t))) hQ (fun w _ => by kernel_rfl) hS ?_
  exact mb_r11_1 Q hQ ps p1 g o mw mg mc k f t wd s h c y q0 q1 q2 q3 z _ _ hS hk0 hk1 hk2 hk3 (fun r hr => hq.out r (by simpa using hr))

theorem mb_r11 (Q : Exit → Act → World → Prop) (hQ : ∀ c x (n : Nat) v w,Q (.panic c) (x.put (some n) v) w → Q (.panic c) x w) (id : Nat) (ps p1 : String) {v1 v2 v6 v7 v8 v9 xa xb xc xd xe xf xg xh xi xj xk xl xm xn xo xp xq xr xt xu xv xw xx xy xz xA xB xC xD xE xF xG xH xI xJ xK xL xM xN xO xP xQ xR xS xT xU xV xW xX xY xZ ya yb yc yd ye yf yg yh yi yj yk yl ym yn yo yp yq yr yt : Value} (g o : Nat) (mw mg mc k f t wd s h c : Int) (y q0 q1 q2 q3 : Bool) (z : World) (w : World) (hS : ItAt z g o ⟨k,f,t,wd,s,h,c,y⟩ (World.drew w))
  (hk0 : ∀ w : World,Calls Tryz.prog 281 #[.int .i64 wd,.int .i64 mw] w fun e w' => e = .returned (.bool q0) ∧ w' = w)
  (hk1 : ∀ w : World,Calls Tryz.prog 281 #[.int .i64 s,.int .i64 mg] w fun e w' => e = .returned (.bool q1) ∧ w' = w)
  (hk2 : ∀ w : World,Calls Tryz.prog 281 #[.int .i64 h,.int .i64 mg] w fun e w' => e = .returned (.bool q2) ∧ w' = w)
  (hk3 : ∀ w : World,Calls Tryz.prog 281 #[.int .i64 c,.int .i64 mc] w fun e w' => e = .returned (.bool q3) ∧ w' = w)
  (hq : Hid (∀ r,r = (decide (0 ≤ f) && (decide (f ≤ t)) && (q0) && (q1) && (q2) && (q3) && (!y || k == 3)) → ∀ u18 u19 u20 u21 u22 u23 u24 u25 u26 u27 u28 u29 u30 u31 u32 u33 u34 u35 u36 u37 u38 u39 u40 u41 u42 u43 u44 u45 u46 u47 u48 u49 u50 u51 u52 u53 u54 u55 u56 u57 u58 u59 u60 u61 u62 u63 u64 u65 u66 u67 u68 u69 u70 u71 u72 u73 u74 u75 u76 u77 u78 u79 w',ItAt z g o ⟨k,f,t,wd,s,h,c,y⟩ w' → Q .normal (fr55 (.pointer (some ⟨g,o,none⟩)) v1 (.bool r) (.int .i64 mw) (.int .i64 mg) (.int .i64 mc) v6 v7 v8 v9 xa xb xc xd xe xf xg xh u18 u19 u20 u21 u22 u23 u24 u25 u26 u27 u28 u29 u30 u31 u32 u33 u34 u35 u36 u37 u38 u39 u40 u41 u42 u43 u44 u45 u46 u47 u48 u49 u50 u51 u52 u53 u54 u55 u56 u57 u58 u59 u60 u61 u62 u63 u64 u65 u66 u67 u68 u69 u70 u71 u72 u73 u74 u75 u76 u77 u78 u79) w')) :
  (Code.region id (ops55_11 ps p1) true).wp Tryz.prog Q (fr55 (.pointer (some ⟨g,o,none⟩)) v1 v2 (.int .i64 mw) (.int .i64 mg) (.int .i64 mc) v6 v7 v8 v9 xa xb xc xd xe xf xg xh xi xj xk xl xm xn xo xp xq xr xt xu xv xw xx xy xz xA xB xC xD xE xF xG xH xI xJ xK xL xM xN xO xP xQ xR xS xT xU xV xW xX xY xZ ya yb yc yd ye yf yg yh yi yj yk yl ym yn yo yp yq yr yt) w := by
 refine wp_region_held (S := ItAt z g o ⟨k,f,t,wd,s,h,c,y⟩) (by kernel_rfl) ?_
 change wpAnyH _ _ _ _ _ 63 _ _ (World.drew w)
 refine take_r 0 ⟨some 18,.move (.tmp 0),329,ps,#[],none⟩ (.pointer (some ⟨g,o,none⟩)) hQ (fun w _ => by kernel_rfl) hS ?_
 refine take_r 1 ⟨some 19,.nilCheck (.tmp 18),0,ps,#[⟨0,.data⟩],none⟩ (.pointer (some ⟨g,o,none⟩)) hQ (fun w hS => by unfold fr55; go_simp) hS ?_
 refine take_r 2 ⟨some 20,.fieldAddr 125 (.tmp 19) 1,0,ps,#[⟨1,.data⟩],none⟩ (.pointer (some ⟨g,o + 1,none⟩)) hQ (fun w hS => by unfold fr55; go_simp) hS ?_
 refine take_r 3 ⟨some 21,.load 3 (.tmp 20),3,ps,#[⟨2,.data⟩],none⟩ (.int .i64 f) hQ (fun w hS => by have e := hS.c1; unfold fr55; go_simp) hS ?_
 refine take_r 4 ⟨some 22,.binOp .geq 3 (.tmp 21) (.const (.int .i64 0)) 3,4,ps,#[⟨3,.data⟩],none⟩ (.bool (decide (0 ≤ f))) hQ (fun w hS => by unfold fr55; go_simp) hS ?_
 refine take_k 5 (ops55_11_5 ps p1) (.bool (decide (0 ≤ f))) (fr55 (.pointer (some ⟨g,o,none⟩)) v1 v2 (.int .i64 mw) (.int .i64 mg) (.int .i64 mc) v6 v7 v8 v9 xa xb xc xd xe xf xg xh (.pointer (some ⟨g,o,none⟩)) (.pointer (some ⟨g,o,none⟩)) (.pointer (some ⟨g,o + 1,none⟩)) (.int .i64 f) (.bool (decide (0 ≤ f))) (.bool (decide (0 ≤ f))) xo xp xq xr xt xu xv xw xx xy xz xA xB xC xD xE xF xG xH xI xJ xK xL xM xN xO xP xQ xR xS xT xU xV xW xX xY xZ ya yb yc yd ye yf yg yh yi yj yk yl ym yn yo yp yq yr yt) hQ (fun w _ => by kernel_rfl) hS ?_
 exact mb_r11_0 Q hQ ps p1 g o mw mg mc k f t wd s h c y q0 q1 q2 q3 z _ _ hS hk0 hk1 hk2 hk3 (fun r hr => hq.out r (by simpa using hr))

theorem mayBe_any (x : It) (b o : Nat) (w : World) (hc : ∀ (j : Nat) (u : Value),(itL x)[j]? = some u → w.cell? ⟨b,o + j,none⟩ = some u) :
  Calls Tryz.prog 240 #[.pointer (some ⟨b,o,none⟩)] w fun e w' => e = .returned (.bool (okI x)) ∧ Below w.heap.size w w' := by
 have hS : Hid (ItAt w b o x w.drew) := ⟨⟨rfl,rfl,rfl,Nat.le_refl _,fun _ _ => rfl⟩,hc 0 _ rfl,hc 1 _ rfl,hc 2 _ rfl,hc 3 _ rfl,hc 4 _ rfl,hc 5 _ rfl,hc 6 _ rfl,hc 7 _ rfl⟩
 have c0 : w.cell? ⟨b,o,none⟩ = some (.int .i64 x.k) := hc 0 _ rfl
 have hF : Hid (¬ okP x → okI x = false) := fun h => decide_eq_false h
 have hE : Hid (okI x = decide (okP x)) := rfl
 have hB : Below w.heap.size w w := Below.refl _ _
 clear hc
 unfold okP at hF hE
 generalize okI x = r at *
 obtain ⟨k,f,t,wd,s,h,c,y⟩ := x
 simp only at c0 hF hE
 by_cases k1 : k = 1
 ·subst k1
  go_enter Tryz.func240,Tryz.ntmps240
  go_wp2_with fail
  refine mb_r11 _ (fun _ _ _ _ _ h => h) _ _ _ b o 524288 0 0 1 f t wd s h c y _ _ _ _ w w hS.out (keeps_any _ _) (keeps_any _ _) (keeps_any _ _) (keeps_any _ _) ?_
  intro r' hr' u18 u19 u20 u21 u22 u23 u24 u25 u26 u27 u28 u29 u30 u31 u32 u33 u34 u35 u36 u37 u38 u39 u40 u41 u42 u43 u44 u45 u46 u47 u48 u49 u50 u51 u52 u53 u54 u55 u56 u57 u58 u59 u60 u61 u62 u63 u64 u65 u66 u67 u68 u69 u70 u71 u72 u73 u74 u75 u76 u77 u78 u79 w' hb'
  have hr : r = r' := by
   rw [hr',hE.out,Bool.eq_iff_iff]
   unfold keB
   cases y <;> simp <;> omega
  subst hr
  have hb2 := hb'.bel
  clear hF hE hr' c0 hS hb'
  unfold fr55
  go_wp2_with fail
  go_ret
  exact ⟨rfl,hb2⟩
 have q1 : (k == 1) = false := by simpa using k1
 by_cases k2 : k = 2
 ·subst k2
  go_enter Tryz.func240,Tryz.ntmps240
  go_wp2_with fail
  refine mb_r11 _ (fun _ _ _ _ _ h => h) _ _ _ b o 524288 4095 0 2 f t wd s h c y _ _ _ _ w w hS.out (keeps_any _ _) (keeps_any _ _) (keeps_any _ _) (keeps_any _ _) ?_
  intro r' hr' u18 u19 u20 u21 u22 u23 u24 u25 u26 u27 u28 u29 u30 u31 u32 u33 u34 u35 u36 u37 u38 u39 u40 u41 u42 u43 u44 u45 u46 u47 u48 u49 u50 u51 u52 u53 u54 u55 u56 u57 u58 u59 u60 u61 u62 u63 u64 u65 u66 u67 u68 u69 u70 u71 u72 u73 u74 u75 u76 u77 u78 u79 w' hb'
  have hr : r = r' := by
   rw [hr',hE.out,Bool.eq_iff_iff]
   unfold keB
   cases y <;> simp <;> omega
  subst hr
  have hb2 := hb'.bel
  clear hF hE hr' c0 hS hb'
  unfold fr55
  go_wp2_with fail
  go_ret
  exact ⟨rfl,hb2⟩
 have q2 : (k == 2) = false := by simpa using k2
 by_cases k3 : k = 3
 ·subst k3
  go_enter Tryz.func240,Tryz.ntmps240
  go_wp2_with fail
  refine mb_r11 _ (fun _ _ _ _ _ h => h) _ _ _ b o 524288 0 4095 3 f t wd s h c y _ _ _ _ w w hS.out (keeps_any _ _) (keeps_any _ _) (keeps_any _ _) (keeps_any _ _) ?_
  intro r' hr' u18 u19 u20 u21 u22 u23 u24 u25 u26 u27 u28 u29 u30 u31 u32 u33 u34 u35 u36 u37 u38 u39 u40 u41 u42 u43 u44 u45 u46 u47 u48 u49 u50 u51 u52 u53 u54 u55 u56 u57 u58 u59 u60 u61 u62 u63 u64 u65 u66 u67 u68 u69 u70 u71 u72 u73 u74 u75 u76 u77 u78 u79 w' hb'
  have hr : r = r' := by
   rw [hr',hE.out,Bool.eq_iff_iff]
   unfold keB
   cases y <;> simp <;> omega
  subst hr
  have hb2 := hb'.bel
  clear hF hE hr' c0 hS hb'
  unfold fr55
  go_wp2_with fail
  go_ret
  exact ⟨rfl,hb2⟩
 have q3 : (k == 3) = false := by simpa using k3
 by_cases k4 : k = 4
 ·subst k4
  go_enter Tryz.func240,Tryz.ntmps240
  go_wp2_with fail
  refine mb_r11 _ (fun _ _ _ _ _ h => h) _ _ _ b o 0 0 0 4 f t wd s h c y _ _ _ _ w w hS.out (keeps_any _ _) (keeps_any _ _) (keeps_any _ _) (keeps_any _ _) ?_
  intro r' hr' u18 u19 u20 u21 u22 u23 u24 u25 u26 u27 u28 u29 u30 u31 u32 u33 u34 u35 u36 u37 u38 u39 u40 u41 u42 u43 u44 u45 u46 u47 u48 u49 u50 u51 u52 u53 u54 u55 u56 u57 u58 u59 u60 u61 u62 u63 u64 u65 u66 u67 u68 u69 u70 u71 u72 u73 u74 u75 u76 u77 u78 u79 w' hb'
  have hr : r = r' := by
   rw [hr',hE.out,Bool.eq_iff_iff]
   unfold keB
   cases y <;> simp <;> omega
  subst hr
  have hb2 := hb'.bel
  clear hF hE hr' c0 hS hb'
  unfold fr55
  go_wp2_with fail
  go_ret
  exact ⟨rfl,hb2⟩
 have q4 : (k == 4) = false := by simpa using k4
 have hr : r = false := hF.out (by omega)
 subst hr
 clear hF hE hS
 go_enter Tryz.func240,Tryz.ntmps240
 go_wp2_with fail
 go_ret
 exact ⟨rfl,hB⟩
end Go.Proofs.YtaphggjakaghjaaGreatDoor
