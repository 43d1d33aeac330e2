/-
  What is proved here: the document's region that asks whether a mass is kerned, in one.
  What is proved here: the document's regions that lay down a mass's width and kerning.
-/
import Derived.Test.YthcphnifnfnceaaGreatDoorG35
import Derived.Test.YthcphnifnfnceaaGreatDoorG2
import Derived.Test.YthcphnifnfnceaaGreatDoorG33
namespace Go.Proofs.YthcphnifnfnceaaGreatDoor
open Go.RowKit Go.Shelf
set_option maxRecDepth 100000
set_option maxHeartbeats 4000000

def Asks (a : Pa) (w0 : World) (k : Nat) (kd lk s : Int) (v5 v7 : Value) (c : Bool) : Prop :=
 (k = 0 ∧ c = false) ∨ (0 < k ∧ visK kd = false ∧ c = false) ∨
 (0 < k ∧ visK kd = true ∧ ∃ gl n cp x1 T nT cT : Nat,∃ kd1 s1 : Int,v5 = .slice (some ⟨gl,0,none⟩) n cp ∧ gl < w0.heap.size ∧ k - 1 < n ∧ w0.cell? ⟨gl,(k - 1) * 3 + 2,none⟩ = some (.int .i64 kd1) ∧ w0.cell? ⟨gl,(k - 1) * 3,none⟩ = some (.int .i64 (x1 : Nat)) ∧ x1 < a.t.size ∧
  v7 = .slice (some ⟨T,0,none⟩) nT cT ∧ T < w0.heap.size ∧ k - 1 < nT ∧ w0.cell? ⟨T,(k - 1) * 6 + 3,none⟩ = some (.int .i64 s1) ∧ c = (visK kd1 && (decide (lk = 1) && (decide ((spAt a.sp x1).k = 1) && decide (s1 = s)))))

theorem rm_r18 (Q : Exit → Act → World → Prop) (hQ : ∀ c x (n : Nat) v w,Q (.panic c) (x.put (some n) v) w → Q (.panic c) x w) (id : Nat) (ps : String) {v0 v2 v3 v4 v5 v6 v7 v8 xa xb xc xd xe xf xg xh xi xj xk xl xm xn xo xp xq xr xt xu xv xw xx xy xz xA xB xC xD xE xF xG xH xI xJ xK xL xM xN xO xP xQ xR xS xT xU xV xW xX xY xZ ya yb yc yd ye yf yg yh yi yj yk yl ym yn yo yp yq yr yt yu yv yw yx yy yz yA yB yC yD yE yF yG yH yI yJ yK yL yM yN yO yP yQ yR yS yT yU yV yW yX yY yZ za zb zc zd ze zf zg zh zi zj zk zl zm zn zo zp zq zr zs zt zu zv zw zx zy zz zA zB zC zD zE zF zG zH zI : Value} (w0 : World) (B C M N k : Nat) (hk : k ≤ 4096) (a : Pa) (ht : a.t.size ≤ 4096) (hsp : spB a.sp a.t.size = true) (x y kd s wd q ls lt lk : Int) (c : Bool) (hP : PB w0 B a) (hA : PaAt w0 a) (hC : CB w0 C x y kd) (hM : MB w0 M x y kd s wd q) (hN : KB w0 N ls lt lk) (hask : Asks a w0 k kd lk s v5 v7 c)
  (hq : ∀ u83 u84 u85 u86 u87 u88 u89 u90 u91 u92 u93 u94 u95 u96 u97 u98 u99 u100 u101 u102 u103 u104 u105 u106 u107 u108 u109 u110 u111 u112 u113 u114 u115 u116 u117 u118 u119 u120 u121 u122 u123 u124 u125 w',Turns Noth w0 w' → Q .normal (fr18 v0 (.pointer (some ⟨B,0,none⟩)) v2 v3 v4 v5 v6 v7 v8 (.int .i64 (k : Nat)) (.pointer (some ⟨C,0,none⟩)) (.pointer (some ⟨M,0,none⟩)) (.pointer (some ⟨N,0,none⟩)) xa xb xc xd xe xf xg xh xi xj xk xl xm xn xo xp xq xr xt xu xv xw xx xy xz xA xB xC xD xE xF xG xH xI xJ xK xL xM xN xO xP xQ xR xS xT xU xV xW xX xY xZ ya yb yc yd ye yf yg yh yi yj yk yl ym yn yo yp yq yr yt u83 u84 u85 u86 u87 u88 u89 u90 u91 u92 u93 u94 u95 u96 u97 u98 u99 u100 u101 u102 u103 u104 u105 u106 u107 u108 u109 u110 u111 u112 u113 u114 u115 u116 u117 u118 u119 u120 u121 u122 u123 u124 u125 (.bool c) zm zn zo zp zq zr zs zt zu zv zw zx zy zz zA zB zC zD zE zF zG zH zI) w') :
  (Code.region id (ops18_18 ps) true).wp Tryz.prog Q (fr18 v0 (.pointer (some ⟨B,0,none⟩)) v2 v3 v4 v5 v6 v7 v8 (.int .i64 (k : Nat)) (.pointer (some ⟨C,0,none⟩)) (.pointer (some ⟨M,0,none⟩)) (.pointer (some ⟨N,0,none⟩)) xa xb xc xd xe xf xg xh xi xj xk xl xm xn xo xp xq xr xt xu xv xw xx xy xz xA xB xC xD xE xF xG xH xI xJ xK xL xM xN xO xP xQ xR xS xT xU xV xW xX xY xZ ya yb yc yd ye yf yg yh yi yj yk yl ym yn yo yp yq yr yt yu yv yw yx yy yz yA yB yC yD yE yF yG yH yI yJ yK yL yM yN yO yP yQ yR yS yT yU yV yW yX yY yZ za zb zc zd ze zf zg zh zi zj zk zl zm zn zo zp zq zr zs zt zu zv zw zx zy zz zA zB zC zD zE zF zG zH zI) w0 := by
 rcases hask with ⟨h0,rfl⟩ | ⟨h0,h1,rfl⟩ | ⟨h0,h1,gl,n,cp,x1,T,nT,cT,kd1,s1,rfl,hgl,hkn,hg2,hg0,hx1,rfl,hTl,hkT,hT3,hc⟩
 ·exact rm_r18_0 Q hQ id ps w0 B C M N k a x y kd s wd q ls lt lk (by omega) hP hA hC hM hN (fun w' hT => hq _ _ _ _ _ _ _ _ _ _ _ _ _ _ _ _ _ _ _ _ _ _ _ _ _ _ _ _ _ _ _ _ _ _ _ _ _ _ _ _ _ _ _ w' hT)
 ·exact rm_r18_1 Q hQ id ps w0 B C M N k a x y kd s wd q ls lt lk (by omega) h1 hP hA hC hM hN (fun w' hT => hq _ _ _ _ _ _ _ _ _ _ _ _ _ _ _ _ _ _ _ _ _ _ _ _ _ _ _ _ _ _ _ _ _ _ _ _ _ _ _ _ _ _ _ w' hT)
 ·have hk1 : IntKind.i64.wrap ((k : Int) - 1) = ((k - 1 : Nat) : Int) := by rw [wrap_id (by omega) (by omega)]; omega
  have hkn' : ((k - 1 : Nat) : Int) < n := by omega
  have hkT' : ((k - 1 : Nat) : Int) < nT := by omega
  cases h2 : visK kd1
  ·rw [h2,Bool.false_and] at hc
   subst hc
   exact rm_r18_2 Q hQ id ps w0 B C M N k a x y kd s wd q ls lt lk gl 0 n cp (k - 1) _ x1 kd1 hgl hk1 hkn' (Nat.zero_add _) hg2 hg0 (by omega) h1 h2 hP hA hC hM hN (fun w' hT => hq _ _ _ _ _ _ _ _ _ _ _ _ _ _ _ _ _ _ _ _ _ _ _ _ _ _ _ _ _ _ _ _ _ _ _ _ _ _ _ _ _ _ _ w' hT)
  ·rw [h2,Bool.true_and] at hc
   by_cases h3 : lk = 1
   ·rw [decide_eq_true h3,Bool.true_and] at hc
    by_cases h4 : (spAt a.sp x1).k = 1
    ·rw [decide_eq_true h4,Bool.true_and] at hc
     by_cases h5 : s1 = s
     ·rw [decide_eq_true h5] at hc
      subst hc
      exact rm_r18_6 Q hQ id ps w0 B C M N k a x y kd s wd q ls lt lk gl 0 n cp (k - 1) _ x1 kd1 hgl hk1 hkn' (Nat.zero_add _) hg2 hg0 hx1 ht hsp T 0 nT cT _ s1 hTl hkT' (Nat.zero_add _) hT3 (by omega) h1 h2 (by simpa using h3) (by simpa using h4) (by simpa using h5) hP hA hC hM hN (fun w' hT => hq _ _ _ _ _ _ _ _ _ _ _ _ _ _ _ _ _ _ _ _ _ _ _ _ _ _ _ _ _ _ _ _ _ _ _ _ _ _ _ _ _ _ _ w' hT)
     ·rw [decide_eq_false h5] at hc
      subst hc
      exact rm_r18_5 Q hQ id ps w0 B C M N k a x y kd s wd q ls lt lk gl 0 n cp (k - 1) _ x1 kd1 hgl hk1 hkn' (Nat.zero_add _) hg2 hg0 hx1 ht hsp T 0 nT cT _ s1 hTl hkT' (Nat.zero_add _) hT3 (by omega) h1 h2 (by simpa using h3) (by simpa using h4) (by simpa using h5) hP hA hC hM hN (fun w' hT => hq _ _ _ _ _ _ _ _ _ _ _ _ _ _ _ _ _ _ _ _ _ _ _ _ _ _ _ _ _ _ _ _ _ _ _ _ _ _ _ _ _ _ _ w' hT)
    ·rw [decide_eq_false h4,Bool.false_and] at hc
     subst hc
     exact rm_r18_4 Q hQ id ps w0 B C M N k a x y kd s wd q ls lt lk gl 0 n cp (k - 1) _ x1 kd1 hgl hk1 hkn' (Nat.zero_add _) hg2 hg0 hx1 ht hsp (by omega) h1 h2 (by simpa using h3) (by simpa using h4) hP hA hC hM hN (fun w' hT => hq _ _ _ _ _ _ _ _ _ _ _ _ _ _ _ _ _ _ _ _ _ _ _ _ _ _ _ _ _ _ _ _ _ _ _ _ _ _ _ _ _ _ _ w' hT)
   ·rw [decide_eq_false h3,Bool.false_and] at hc
    subst hc
    exact rm_r18_3 Q hQ id ps w0 B C M N k a x y kd s wd q ls lt lk gl 0 n cp (k - 1) _ x1 kd1 hgl hk1 hkn' (Nat.zero_add _) hg2 hg0 (by omega) h1 h2 (by simpa using h3) hP hA hC hM hN (fun w' hT => hq _ _ _ _ _ _ _ _ _ _ _ _ _ _ _ _ _ _ _ _ _ _ _ _ _ _ _ _ _ _ _ _ _ _ _ _ _ _ _ _ _ _ _ w' hT)
end Go.Proofs.YthcphnifnfnceaaGreatDoor

namespace Go.Proofs.YthcphnifnfnceaaGreatDoor
open Go.RowKit Go.Shelf
set_option maxRecDepth 100000
set_option maxHeartbeats 4000000
def ops18_14 (ps : String) : Array Oper := #[⟨some 57,.fieldAddr 27 (.tmp 1) 0,0,ps,#[],none⟩,⟨some 58,.load 9 (.tmp 57),9,ps,#[⟨0,.data⟩],none⟩,⟨some 59,.fieldAddr 101 (.tmp 10) 0,0,ps,#[],none⟩,⟨some 60,.load 3 (.tmp 59),3,ps,#[⟨2,.data⟩],none⟩,⟨some 61,.index 9 (.tmp 58) (.tmp 60),5,ps,#[⟨1,.data⟩,⟨3,.data⟩],none⟩,⟨some 62,.fieldAddr 58 (.tmp 11) 3,0,ps,#[],none⟩,⟨some 63,.load 3 (.tmp 62),3,ps,#[⟨5,.data⟩],none⟩,⟨some 64,.call ⟨.value (.func 44),#[.tmp 61,.tmp 63],#[5,3]⟩,3,ps,#[⟨4,.data⟩,⟨6,.data⟩],none⟩,⟨some 65,.fieldAddr 90 (.tmp 12) 1,0,ps,#[],none⟩,⟨some 66,.load 3 (.tmp 65),3,ps,#[⟨8,.data⟩],none⟩,⟨some 67,.binOp .add 3 (.tmp 64) (.tmp 66) 3,3,ps,#[⟨7,.data⟩,⟨9,.data⟩],none⟩,⟨some 68,.fieldAddr 58 (.tmp 11) 4,0,ps,#[⟨0,.phase⟩,⟨1,.phase⟩,⟨2,.phase⟩,⟨3,.phase⟩,⟨4,.phase⟩,⟨5,.phase⟩,⟨6,.phase⟩,⟨7,.phase⟩,⟨8,.phase⟩,⟨9,.phase⟩,⟨10,.phase⟩],none⟩,⟨none,.store 3 (.tmp 68) (.tmp 67),0,ps,#[⟨11,.data⟩,⟨10,.data⟩,⟨7,.chain⟩,⟨0,.phase⟩,⟨1,.phase⟩,⟨2,.phase⟩,⟨3,.phase⟩,⟨4,.phase⟩,⟨5,.phase⟩,⟨6,.phase⟩,⟨7,.phase⟩,⟨8,.phase⟩,⟨9,.phase⟩,⟨10,.phase⟩],none⟩]

theorem rm_r14 (Q : Exit → Act → World → Prop) (hQ : ∀ c x (n : Nat) v w,Q (.panic c) (x.put (some n) v) w → Q (.panic c) x w) (id : Nat) (ps : String) {v0 v2 v3 v4 v5 v6 v7 v8 v9 xc xd xe xf xg xh xi xj xk xl xm xn xo xp xq xr xt xu xv xw xx xy xz xA xB xC xD xE xF xG xH xI xJ xK xL xM xN xO xP xQ xR xS xT xU xV xW xX xY xZ ya yc yd ye yf yg yh yi yj yk yl ym yn yo yp yq yr yt yu yv yw yx yy yz yA yB yC yD yE yF yG yH yI yJ yK yL yM yN yO yP yQ yR yS yT yU yV yW yX yY yZ za zb zc zd ze zf zg zh zi zj zk zl zm zn zo zp zq zr zs zt zu zv zw zx zy zz zA zB zC zD zE zF zG zH zI zJ zK zL : Value}
  (B C M N x : Nat) (a : Pa) (y kd s wd q ls lt lk yb : Int) (hx : x < a.t.size) (hyb : ((a.t[x]'hx).toNat : Int) = yb) (hyr : 0 ≤ yb ∧ yb < 256) (hs : 0 ≤ s ∧ s ≤ 64) (hwr : IntKind.i64.wrap (bw yb s + lt) = bw yb s + lt) (hBM : B ≠ M) (hCM : C ≠ M) (hNM : N ≠ M) (w0 : World) (hP : PB w0 B a) (hC : CB w0 C x y kd) (hM : MB w0 M x y kd s wd q) (hN : KB w0 N ls lt lk)
  (hq : ∀ w',MB w' M x y kd s (bw yb s + lt) q → Turns (fun b => b = M) w0 w' → Q .normal (fr18 v0 (.pointer (some ⟨B,0,none⟩)) v2 v3 v4 v5 v6 v7 v8 v9 (.pointer (some ⟨C,0,none⟩)) (.pointer (some ⟨M,0,none⟩)) (.pointer (some ⟨N,0,none⟩)) xc xd xe xf xg xh xi xj xk xl xm xn xo xp xq xr xt xu xv xw xx xy xz xA xB xC xD xE xF xG xH xI xJ xK xL xM xN xO xP xQ xR xS xT xU (.pointer (some ⟨B,0,none⟩)) (.string a.t) (.pointer (some ⟨C,0,none⟩)) (.int .i64 (x : Nat)) (.int .u8 yb) (.pointer (some ⟨M,3,none⟩)) (.int .i64 s) (.int .i64 (bw yb s)) (.pointer (some ⟨N,1,none⟩)) (.int .i64 lt) (.int .i64 (bw yb s + lt)) (.pointer (some ⟨M,4,none⟩)) yi yj yk yl ym yn yo yp yq yr yt yu yv yw yx yy yz yA yB yC yD yE yF yG yH yI yJ yK yL yM yN yO yP yQ yR yS yT yU yV yW yX yY yZ za zb zc zd ze zf zg zh zi zj zk zl zm zn zo zp zq zr zs zt zu zv zw zx zy zz zA zB zC zD zE zF zG zH zI zJ zK zL) w') :
  (Code.region id (ops18_14 ps) true).wp Tryz.prog Q (fr18 v0 (.pointer (some ⟨B,0,none⟩)) v2 v3 v4 v5 v6 v7 v8 v9 (.pointer (some ⟨C,0,none⟩)) (.pointer (some ⟨M,0,none⟩)) (.pointer (some ⟨N,0,none⟩)) xc xd xe xf xg xh xi xj xk xl xm xn xo xp xq xr xt xu xv xw xx xy xz xA xB xC xD xE xF xG xH xI xJ xK xL xM xN xO xP xQ xR xS xT xU xV xW xX xY xZ ya yc yd ye yf yg yh yi yj yk yl ym yn yo yp yq yr yt yu yv yw yx yy yz yA yB yC yD yE yF yG yH yI yJ yK yL yM yN yO yP yQ yR yS yT yU yV yW yX yY yZ za zb zc zd ze zf zg zh zi zj zk zl zm zn zo zp zq zr zs zt zu zv zw zx zy zz zA zB zC zD zE zF zG zH zI zJ zK zL) w0 := by
 refine wp_region_held (S := fun w => PB w B a ∧ w.cell? ⟨C,0,none⟩ = some (.int .i64 (x : Nat)) ∧ w.cell? ⟨M,3,none⟩ = some (.int .i64 s) ∧ w.cell? ⟨N,1,none⟩ = some (.int .i64 lt)) (by kernel_rfl) ?_
 change wpAnyH _ _ _ _ _ 13 _ _ (World.drew w0)
 have C0 : (fun w => PB w B a ∧ w.cell? ⟨C,0,none⟩ = some (.int .i64 (x : Nat)) ∧ w.cell? ⟨M,3,none⟩ = some (.int .i64 s) ∧ w.cell? ⟨N,1,none⟩ = some (.int .i64 lt)) w0.drew := ⟨⟨hP.row⟩,hC.c0,hM.c3,hN.c1⟩
 have hM0 : MB w0.drew M x y kd s wd q := ⟨hM.row⟩
 refine take_r 0 ⟨some 57,.fieldAddr 27 (.tmp 1) 0,0,ps,#[],none⟩ (.pointer (some ⟨B,0,none⟩)) hQ (fun w hS => by unfold fr18; go_simp) C0 ?_
 refine take_r 1 ⟨some 58,.load 9 (.tmp 57),9,ps,#[⟨0,.data⟩],none⟩ (.string a.t) hQ (fun w hS => by have e := hS.1.c0; unfold fr18; go_simp) C0 ?_
 refine take_r 2 ⟨some 59,.fieldAddr 101 (.tmp 10) 0,0,ps,#[],none⟩ (.pointer (some ⟨C,0,none⟩)) hQ (fun w hS => by unfold fr18; go_simp) C0 ?_
 refine take_r 3 ⟨some 60,.load 3 (.tmp 59),3,ps,#[⟨2,.data⟩],none⟩ (.int .i64 (x : Nat)) hQ (fun w hS => by have e := hS.2.1; unfold fr18; go_simp) C0 ?_
 refine take_r 4 ⟨some 61,.index 9 (.tmp 58) (.tmp 60),5,ps,#[⟨1,.data⟩,⟨3,.data⟩],none⟩ (.int .u8 yb) hQ (fun w hS => by have h1 := hyb; have h2 : (x : Int) < a.t.size := (by omega); unfold fr18; go_simp) C0 ?_
 refine take_k 5 ⟨some 62,.fieldAddr 58 (.tmp 11) 3,0,ps,#[],none⟩ (.pointer (some ⟨M,3,none⟩)) (fr18 v0 (.pointer (some ⟨B,0,none⟩)) v2 v3 v4 v5 v6 v7 v8 v9 (.pointer (some ⟨C,0,none⟩)) (.pointer (some ⟨M,0,none⟩)) (.pointer (some ⟨N,0,none⟩)) xc xd xe xf xg xh xi xj xk xl xm xn xo xp xq xr xt xu xv xw xx xy xz xA xB xC xD xE xF xG xH xI xJ xK xL xM xN xO xP xQ xR xS xT xU (.pointer (some ⟨B,0,none⟩)) (.string a.t) (.pointer (some ⟨C,0,none⟩)) (.int .i64 (x : Nat)) (.int .u8 yb) (.pointer (some ⟨M,3,none⟩)) yc yd ye yf yg yh yi yj yk yl ym yn yo yp yq yr yt yu yv yw yx yy yz yA yB yC yD yE yF yG yH yI yJ yK yL yM yN yO yP yQ yR yS yT yU yV yW yX yY yZ za zb zc zd ze zf zg zh zi zj zk zl zm zn zo zp zq zr zs zt zu zv zw zx zy zz zA zB zC zD zE zF zG zH zI zJ zK zL) hQ (fun w hS => by unfold fr18; go_simp) C0 ?_
 refine take_r 6 ⟨some 63,.load 3 (.tmp 62),3,ps,#[⟨5,.data⟩],none⟩ (.int .i64 s) hQ (fun w hS => by have e := hS.2.2.1; unfold fr18; go_simp) C0 ?_
 refine take_r 8 ⟨some 65,.fieldAddr 90 (.tmp 12) 1,0,ps,#[],none⟩ (.pointer (some ⟨N,1,none⟩)) hQ (fun w hS => by unfold fr18; go_simp) C0 ?_
 refine take_r 9 ⟨some 66,.load 3 (.tmp 65),3,ps,#[⟨8,.data⟩],none⟩ (.int .i64 lt) hQ (fun w hS => by have e := hS.2.2.2; unfold fr18; go_simp) C0 ?_
 refine want_k 7 ⟨some 64,.call ⟨.value (.func 44),#[.tmp 61,.tmp 63],#[5,3]⟩,3,ps,#[⟨4,.data⟩,⟨6,.data⟩],none⟩ fun K hK => ?_
 unfold fr18
 go_simp
 refine (rbyteWidth_any yb s hyr hs.1 hs.2 _).mono ?_
 rintro e w1 ⟨rfl,hww⟩
 subst w1
 refine hK _ _ C0 (cast_h (fr18 v0 (.pointer (some ⟨B,0,none⟩)) v2 v3 v4 v5 v6 v7 v8 v9 (.pointer (some ⟨C,0,none⟩)) (.pointer (some ⟨M,0,none⟩)) (.pointer (some ⟨N,0,none⟩)) xc xd xe xf xg xh xi xj xk xl xm xn xo xp xq xr xt xu xv xw xx xy xz xA xB xC xD xE xF xG xH xI xJ xK xL xM xN xO xP xQ xR xS xT xU (.pointer (some ⟨B,0,none⟩)) (.string a.t) (.pointer (some ⟨C,0,none⟩)) (.int .i64 (x : Nat)) (.int .u8 yb) (.pointer (some ⟨M,3,none⟩)) (.int .i64 s) (.int .i64 (bw yb s)) (.pointer (some ⟨N,1,none⟩)) (.int .i64 lt) yg yh yi yj yk yl ym yn yo yp yq yr yt yu yv yw yx yy yz yA yB yC yD yE yF yG yH yI yJ yK yL yM yN yO yP yQ yR yS yT yU yV yW yX yY yZ za zb zc zd ze zf zg zh zi zj zk zl zm zn zo zp zq zr zs zt zu zv zw zx zy zz zA zB zC zD zE zF zG zH zI zJ zK zL) (by kernel_rfl) ?_)
 clear hK K
 refine take_r 10 ⟨some 67,.binOp .add 3 (.tmp 64) (.tmp 66) 3,3,ps,#[⟨7,.data⟩,⟨9,.data⟩],none⟩ (.int .i64 (bw yb s + lt)) hQ (fun w hS => by have h1 := hwr; unfold fr18; go_simp) C0 ?_
 refine take_r 11 ⟨some 68,.fieldAddr 58 (.tmp 11) 4,0,ps,#[⟨0,.phase⟩,⟨1,.phase⟩,⟨2,.phase⟩,⟨3,.phase⟩,⟨4,.phase⟩,⟨5,.phase⟩,⟨6,.phase⟩,⟨7,.phase⟩,⟨8,.phase⟩,⟨9,.phase⟩,⟨10,.phase⟩],none⟩ (.pointer (some ⟨M,4,none⟩)) hQ (fun w hS => by unfold fr18; go_simp) C0 ?_
 refine want_k 12 ⟨none,.store 3 (.tmp 68) (.tmp 67),0,ps,#[⟨11,.data⟩,⟨10,.data⟩,⟨7,.chain⟩,⟨0,.phase⟩,⟨1,.phase⟩,⟨2,.phase⟩,⟨3,.phase⟩,⟨4,.phase⟩,⟨5,.phase⟩,⟨6,.phase⟩,⟨7,.phase⟩,⟨8,.phase⟩,⟨9,.phase⟩,⟨10,.phase⟩],none⟩ fun K hK => ?_
 have c9 := hM0.c4
 have f9 : w0.drew.frozen? ⟨M,4,none⟩ = false := Lib.frozen_of_heap hM0.row 4
 have G9 := hM0.set4 (bw yb s + lt)
 have T9 : Turns (fun b => b = M) w0.drew (w0.drew.setCell ⟨M,4,none⟩ (.int .i64 (bw yb s + lt))) := Turns.setCell (X := fun b => b = M) _ (p := ⟨M,4,none⟩) rfl _
 have C9 : (fun w => PB w B a ∧ w.cell? ⟨C,0,none⟩ = some (.int .i64 (x : Nat)) ∧ w.cell? ⟨M,3,none⟩ = some (.int .i64 s) ∧ w.cell? ⟨N,1,none⟩ = some (.int .i64 lt)) (w0.drew.setCell ⟨M,4,none⟩ (.int .i64 (bw yb s + lt))) := ⟨C0.1.turns T9 (fun h => hBM h),(cell_far _ _ _ _ _ _ hCM).trans C0.2.1,G9.c3,(cell_far _ _ _ _ _ _ hNM).trans C0.2.2.2⟩
 unfold fr18
 go_simp
 refine hK _ _ C9 (cast_h (fr18 v0 (.pointer (some ⟨B,0,none⟩)) v2 v3 v4 v5 v6 v7 v8 v9 (.pointer (some ⟨C,0,none⟩)) (.pointer (some ⟨M,0,none⟩)) (.pointer (some ⟨N,0,none⟩)) xc xd xe xf xg xh xi xj xk xl xm xn xo xp xq xr xt xu xv xw xx xy xz xA xB xC xD xE xF xG xH xI xJ xK xL xM xN xO xP xQ xR xS xT xU (.pointer (some ⟨B,0,none⟩)) (.string a.t) (.pointer (some ⟨C,0,none⟩)) (.int .i64 (x : Nat)) (.int .u8 yb) (.pointer (some ⟨M,3,none⟩)) (.int .i64 s) (.int .i64 (bw yb s)) (.pointer (some ⟨N,1,none⟩)) (.int .i64 lt) (.int .i64 (bw yb s + lt)) (.pointer (some ⟨M,4,none⟩)) yi yj yk yl ym yn yo yp yq yr yt yu yv yw yx yy yz yA yB yC yD yE yF yG yH yI yJ yK yL yM yN yO yP yQ yR yS yT yU yV yW yX yY yZ za zb zc zd ze zf zg zh zi zj zk zl zm zn zo zp zq zr zs zt zu zv zw zx zy zz zA zB zC zD zE zF zG zH zI zJ zK zL) (by kernel_rfl) ?_)
 clear hK K
 exact wpAnyH_done (by kernel_rfl) (hq _ G9 ((Turns.drew _ _).trans T9)) _
def ops18_16 (ps : String) : Array Oper := #[⟨some 72,.fieldAddr 27 (.tmp 1) 4,0,ps,#[],none⟩,⟨some 73,.load 25 (.tmp 72),25,ps,#[⟨0,.data⟩],none⟩,⟨some 74,.move (.tmp 8),3,ps,#[],none⟩,⟨some 75,.indexAddr 25 (.tmp 73) (.tmp 74),0,ps,#[⟨1,.data⟩,⟨2,.data⟩],none⟩,⟨some 76,.load 9 (.tmp 75),9,ps,#[⟨3,.data⟩],none⟩,⟨some 77,.fieldAddr 58 (.tmp 11) 3,0,ps,#[],none⟩,⟨some 78,.load 3 (.tmp 77),3,ps,#[⟨5,.data⟩],none⟩,⟨some 79,.call ⟨.value (.func 116),#[.tmp 76,.tmp 78],#[9,3]⟩,3,ps,#[⟨4,.data⟩,⟨6,.data⟩],none⟩,⟨some 80,.fieldAddr 58 (.tmp 11) 4,0,ps,#[⟨0,.phase⟩,⟨1,.phase⟩,⟨2,.phase⟩,⟨3,.phase⟩,⟨4,.phase⟩,⟨5,.phase⟩,⟨6,.phase⟩,⟨7,.phase⟩],none⟩,⟨none,.store 3 (.tmp 80) (.tmp 79),0,ps,#[⟨8,.data⟩,⟨7,.data⟩,⟨7,.chain⟩,⟨0,.phase⟩,⟨1,.phase⟩,⟨2,.phase⟩,⟨3,.phase⟩,⟨4,.phase⟩,⟨5,.phase⟩,⟨6,.phase⟩,⟨7,.phase⟩],none⟩]

theorem rm_r16 (Q : Exit → Act → World → Prop) (hQ : ∀ c x (n : Nat) v w,Q (.panic c) (x.put (some n) v) w → Q (.panic c) x w) (id : Nat) (ps : String) {v0 v2 v3 v4 v5 v6 v7 v9 xa xb xc xd xe xf xg xh xi xj xk xl xm xn xo xp xq xr xt xu xv xw xx xy xz xA xB xC xD xE xF xG xH xI xJ xK xL xM xN xO xP xQ xR xS xT xU xV xW xX xY xZ ya yc yd ye yf yg yh yi yj yk yl ym yn yo yp yq yr yt yu yv yw yx yy yz yA yB yC yD yE yF yG yH yI yJ yK yL yM yN yO yP yQ yR yS yT yU yV yW yX yY yZ za zb zc zd ze zf zg zh zi zj zk zl zm zn zo zp zq zr zs zt zu zv zw zx zy zz zA zB zC zD zE zF zG zH zI zJ zK zL : Value}
  (B M g o m c r p : Nat) (mk : ByteArray) (x y kd s wd q : Int) (hmk : mk.size ≤ 4096) (hrm : (r : Int) < m) (hp : o + r = p) (hs : 0 ≤ s ∧ s ≤ 64) (hBM : B ≠ M) (hgM : g ≠ M) (w0 : World) (hB20 : w0.cell? ⟨B,20,none⟩ = some (.slice (some ⟨g,o,none⟩) m c)) (hg : w0.cell? ⟨g,p,none⟩ = some (.string mk)) (hM : MB w0 M x y kd s wd q)
  (hq : ∀ w',MB w' M x y kd s (widthI mk s) q → Turns (fun b => b = M) w0 w' → Q .normal (fr18 v0 (.pointer (some ⟨B,0,none⟩)) v2 v3 v4 v5 v6 v7 (.int .i64 (r : Nat)) v9 xa (.pointer (some ⟨M,0,none⟩)) xb xc xd xe xf xg xh xi xj xk xl xm xn xo xp xq xr xt xu xv xw xx xy xz xA xB xC xD xE xF xG xH xI xJ xK xL xM xN xO xP xQ xR xS xT xU xV xW xX xY xZ ya yc yd ye yf yg yh yi yj yk (.pointer (some ⟨B,20,none⟩)) (.slice (some ⟨g,o,none⟩) m c) (.int .i64 (r : Nat)) (.pointer (some ⟨g,p,none⟩)) (.string mk) (.pointer (some ⟨M,3,none⟩)) (.int .i64 s) (.int .i64 (widthI mk s)) (.pointer (some ⟨M,4,none⟩)) yv yw yx yy yz yA yB yC yD yE yF yG yH yI yJ yK yL yM yN yO yP yQ yR yS yT yU yV yW yX yY yZ za zb zc zd ze zf zg zh zi zj zk zl zm zn zo zp zq zr zs zt zu zv zw zx zy zz zA zB zC zD zE zF zG zH zI zJ zK zL) w') :
  (Code.region id (ops18_16 ps) true).wp Tryz.prog Q (fr18 v0 (.pointer (some ⟨B,0,none⟩)) v2 v3 v4 v5 v6 v7 (.int .i64 (r : Nat)) v9 xa (.pointer (some ⟨M,0,none⟩)) xb xc xd xe xf xg xh xi xj xk xl xm xn xo xp xq xr xt xu xv xw xx xy xz xA xB xC xD xE xF xG xH xI xJ xK xL xM xN xO xP xQ xR xS xT xU xV xW xX xY xZ ya yc yd ye yf yg yh yi yj yk yl ym yn yo yp yq yr yt yu yv yw yx yy yz yA yB yC yD yE yF yG yH yI yJ yK yL yM yN yO yP yQ yR yS yT yU yV yW yX yY yZ za zb zc zd ze zf zg zh zi zj zk zl zm zn zo zp zq zr zs zt zu zv zw zx zy zz zA zB zC zD zE zF zG zH zI zJ zK zL) w0 := by
 refine wp_region_held (S := fun w => w.cell? ⟨B,20,none⟩ = some (.slice (some ⟨g,o,none⟩) m c) ∧ w.cell? ⟨g,p,none⟩ = some (.string mk) ∧ w.cell? ⟨M,3,none⟩ = some (.int .i64 s)) (by kernel_rfl) ?_
 change wpAnyH _ _ _ _ _ 10 _ _ (World.drew w0)
 have C0 : (fun w => w.cell? ⟨B,20,none⟩ = some (.slice (some ⟨g,o,none⟩) m c) ∧ w.cell? ⟨g,p,none⟩ = some (.string mk) ∧ w.cell? ⟨M,3,none⟩ = some (.int .i64 s)) w0.drew := ⟨hB20,hg,hM.c3⟩
 have hM0 : MB w0.drew M x y kd s wd q := ⟨hM.row⟩
 refine take_r 0 ⟨some 72,.fieldAddr 27 (.tmp 1) 4,0,ps,#[],none⟩ (.pointer (some ⟨B,20,none⟩)) hQ (fun w hS => by unfold fr18; go_simp) C0 ?_
 refine take_r 1 ⟨some 73,.load 25 (.tmp 72),25,ps,#[⟨0,.data⟩],none⟩ (.slice (some ⟨g,o,none⟩) m c) hQ (fun w hS => by have e := hS.1; unfold fr18; go_simp) C0 ?_
 refine take_r 2 ⟨some 74,.move (.tmp 8),3,ps,#[],none⟩ (.int .i64 (r : Nat)) hQ (fun w _ => by kernel_rfl) C0 ?_
 refine take_r 3 ⟨some 75,.indexAddr 25 (.tmp 73) (.tmp 74),0,ps,#[⟨1,.data⟩,⟨2,.data⟩],none⟩ (.pointer (some ⟨g,p,none⟩)) hQ (fun w hS => by have h1 := hrm; have h2 := hp; unfold fr18; go_simp) C0 ?_
 refine take_r 4 ⟨some 76,.load 9 (.tmp 75),9,ps,#[⟨3,.data⟩],none⟩ (.string mk) hQ (fun w hS => by have e := hS.2.1; unfold fr18; go_simp) C0 ?_
 refine take_k 5 ⟨some 77,.fieldAddr 58 (.tmp 11) 3,0,ps,#[],none⟩ (.pointer (some ⟨M,3,none⟩)) (fr18 v0 (.pointer (some ⟨B,0,none⟩)) v2 v3 v4 v5 v6 v7 (.int .i64 (r : Nat)) v9 xa (.pointer (some ⟨M,0,none⟩)) xb xc xd xe xf xg xh xi xj xk xl xm xn xo xp xq xr xt xu xv xw xx xy xz xA xB xC xD xE xF xG xH xI xJ xK xL xM xN xO xP xQ xR xS xT xU xV xW xX xY xZ ya yc yd ye yf yg yh yi yj yk (.pointer (some ⟨B,20,none⟩)) (.slice (some ⟨g,o,none⟩) m c) (.int .i64 (r : Nat)) (.pointer (some ⟨g,p,none⟩)) (.string mk) (.pointer (some ⟨M,3,none⟩)) yr yt yu yv yw yx yy yz yA yB yC yD yE yF yG yH yI yJ yK yL yM yN yO yP yQ yR yS yT yU yV yW yX yY yZ za zb zc zd ze zf zg zh zi zj zk zl zm zn zo zp zq zr zs zt zu zv zw zx zy zz zA zB zC zD zE zF zG zH zI zJ zK zL) hQ (fun w hS => by unfold fr18; go_simp) C0 ?_
 refine take_r 6 ⟨some 78,.load 3 (.tmp 77),3,ps,#[⟨5,.data⟩],none⟩ (.int .i64 s) hQ (fun w hS => by have e := hS.2.2; unfold fr18; go_simp) C0 ?_
 refine want_k 7 ⟨some 79,.call ⟨.value (.func 116),#[.tmp 76,.tmp 78],#[9,3]⟩,3,ps,#[⟨4,.data⟩,⟨6,.data⟩],none⟩ fun K hK => ?_
 unfold fr18
 go_simp
 refine (rtextWidth_any mk s hs.1 hs.2 hmk _).mono ?_
 rintro e w1 ⟨rfl,hww⟩
 subst w1
 refine hK _ _ C0 (cast_h (fr18 v0 (.pointer (some ⟨B,0,none⟩)) v2 v3 v4 v5 v6 v7 (.int .i64 (r : Nat)) v9 xa (.pointer (some ⟨M,0,none⟩)) xb xc xd xe xf xg xh xi xj xk xl xm xn xo xp xq xr xt xu xv xw xx xy xz xA xB xC xD xE xF xG xH xI xJ xK xL xM xN xO xP xQ xR xS xT xU xV xW xX xY xZ ya yc yd ye yf yg yh yi yj yk (.pointer (some ⟨B,20,none⟩)) (.slice (some ⟨g,o,none⟩) m c) (.int .i64 (r : Nat)) (.pointer (some ⟨g,p,none⟩)) (.string mk) (.pointer (some ⟨M,3,none⟩)) (.int .i64 s) (.int .i64 (widthI mk s)) yu yv yw yx yy yz yA yB yC yD yE yF yG yH yI yJ yK yL yM yN yO yP yQ yR yS yT yU yV yW yX yY yZ za zb zc zd ze zf zg zh zi zj zk zl zm zn zo zp zq zr zs zt zu zv zw zx zy zz zA zB zC zD zE zF zG zH zI zJ zK zL) (by kernel_rfl) ?_)
 clear hK K
 refine take_r 8 ⟨some 80,.fieldAddr 58 (.tmp 11) 4,0,ps,#[⟨0,.phase⟩,⟨1,.phase⟩,⟨2,.phase⟩,⟨3,.phase⟩,⟨4,.phase⟩,⟨5,.phase⟩,⟨6,.phase⟩,⟨7,.phase⟩],none⟩ (.pointer (some ⟨M,4,none⟩)) hQ (fun w hS => by unfold fr18; go_simp) C0 ?_
 refine want_k 9 ⟨none,.store 3 (.tmp 80) (.tmp 79),0,ps,#[⟨8,.data⟩,⟨7,.data⟩,⟨7,.chain⟩,⟨0,.phase⟩,⟨1,.phase⟩,⟨2,.phase⟩,⟨3,.phase⟩,⟨4,.phase⟩,⟨5,.phase⟩,⟨6,.phase⟩,⟨7,.phase⟩],none⟩ fun K hK => ?_
 have c9 := hM0.c4
 have f9 : w0.drew.frozen? ⟨M,4,none⟩ = false := Lib.frozen_of_heap hM0.row 4
 have G9 := hM0.set4 (widthI mk s)
 have T9 : Turns (fun b => b = M) w0.drew (w0.drew.setCell ⟨M,4,none⟩ (.int .i64 (widthI mk s))) := Turns.setCell (X := fun b => b = M) _ (p := ⟨M,4,none⟩) rfl _
 have C9 := And.intro ((cell_far w0.drew M 4 B 20 (.int .i64 (widthI mk s)) hBM).trans C0.1) (And.intro ((cell_far w0.drew M 4 g p (.int .i64 (widthI mk s)) hgM).trans C0.2.1) G9.c3)
 unfold fr18
 go_simp
 refine hK _ _ C9 (cast_h (fr18 v0 (.pointer (some ⟨B,0,none⟩)) v2 v3 v4 v5 v6 v7 (.int .i64 (r : Nat)) v9 xa (.pointer (some ⟨M,0,none⟩)) xb xc xd xe xf xg xh xi xj xk xl xm xn xo xp xq xr xt xu xv xw xx xy xz xA xB xC xD xE xF xG xH xI xJ xK xL xM xN xO xP xQ xR xS xT xU xV xW xX xY xZ ya yc yd ye yf yg yh yi yj yk (.pointer (some ⟨B,20,none⟩)) (.slice (some ⟨g,o,none⟩) m c) (.int .i64 (r : Nat)) (.pointer (some ⟨g,p,none⟩)) (.string mk) (.pointer (some ⟨M,3,none⟩)) (.int .i64 s) (.int .i64 (widthI mk s)) (.pointer (some ⟨M,4,none⟩)) yv yw yx yy yz yA yB yC yD yE yF yG yH yI yJ yK yL yM yN yO yP yQ yR yS yT yU yV yW yX yY yZ za zb zc zd ze zf zg zh zi zj zk zl zm zn zo zp zq zr zs zt zu zv zw zx zy zz zA zB zC zD zE zF zG zH zI zJ zK zL) (by kernel_rfl) ?_)
 clear hK K
 exact wpAnyH_done (by kernel_rfl) (hq _ G9 ((Turns.drew _ _).trans T9)) _
end Go.Proofs.YthcphnifnfnceaaGreatDoor
