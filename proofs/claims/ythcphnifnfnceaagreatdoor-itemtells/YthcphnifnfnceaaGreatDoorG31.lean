/-
  What is proved here: what the document's small functions answer: from, bit, visible, shown, Char.
  What is proved here: the document's Props: whether the properties of a paragraph may be.
-/
import Derived.Test.YthcphnifnfnceaaGreatDoorG7
namespace Go.Proofs.YthcphnifnfnceaaGreatDoor
open Go.RowKit Go.Shelf
set_option maxRecDepth 100000
set_option maxHeartbeats 1000000

theorem from_any (n a b : Int) (w : World) : Calls Tryz.prog 110 #[.int .i64 n,.int .i64 a,.int .i64 b] w fun e w' => e = .returned (.bool (bdB (n,a,b))) ∧ w' = w := by
 have hv : bdB (n,a,b) = decide (a ≤ n ∧ n ≤ b) := rfl
 rw [hv]
 clear hv
 by_cases h1 : a ≤ n
 ·by_cases h2 : n ≤ b
  ·rw [decide_eq_true ⟨h1,h2⟩]
   go_enter Tryz.func110,Tryz.ntmps110
   go_wp2_with fail
   go_ret
   exact ⟨by first | rfl | (congr 2; simp; omega),rfl⟩
  ·rw [decide_eq_false (fun h => h2 h.2)]
   go_enter Tryz.func110,Tryz.ntmps110
   go_wp2_with fail
   go_ret
   exact ⟨by first | rfl | (congr 2; simp; omega),rfl⟩
 ·rw [decide_eq_false (fun h => h1 h.1)]
  go_enter Tryz.func110,Tryz.ntmps110
  go_wp2_with fail
  go_ret
  exact ⟨by first | rfl | (congr 2; simp; omega),rfl⟩

theorem bit_any (n : Int) (w : World) : Calls Tryz.prog 111 #[.int .i64 n] w fun e w' => e = .returned (.bool (bdB (n,0,1))) ∧ w' = w := by
 have hv : bdB (n,0,1) = decide (0 ≤ n ∧ n ≤ 1) := rfl
 rw [hv]
 clear hv
 by_cases h1 : n = 0
 ·subst h1
  go_enter Tryz.func111,Tryz.ntmps111
  go_wp2_with fail
  go_ret
  exact ⟨rfl,rfl⟩
 ·have f1 : (n == 0) = false := by simpa using h1
  by_cases h2 : n = 1
  ·subst h2
   go_enter Tryz.func111,Tryz.ntmps111
   go_wp2_with fail
   go_ret
   exact ⟨rfl,rfl⟩
  ·have f2 : (n == 1) = false := by simpa using h2
   rw [decide_eq_false (by omega)]
   clear h1 h2
   go_enter Tryz.func111,Tryz.ntmps111
   go_wp2_with fail
   go_ret
   exact ⟨rfl,rfl⟩

def visK (k : Int) : Bool := decide (k = 1 ∨ k = 2)
theorem visible_any (n : Int) (w : World) : Calls Tryz.prog 115 #[.int .i64 n] w fun e w' => e = .returned (.bool (visK n)) ∧ w' = w := by
 have hv : visK n = decide (n = 1 ∨ n = 2) := rfl
 rw [hv]
 clear hv
 by_cases h1 : n = 1
 ·subst h1
  go_enter Tryz.func115,Tryz.ntmps115
  go_wp2_with fail
  go_ret
  exact ⟨rfl,rfl⟩
 ·have f1 : (n == 1) = false := by simpa using h1
  by_cases h2 : n = 2
  ·subst h2
   go_enter Tryz.func115,Tryz.ntmps115
   go_wp2_with fail
   go_ret
   exact ⟨rfl,rfl⟩
  ·have f2 : (n == 2) = false := by simpa using h2
   rw [decide_eq_false (by omega)]
   clear h1 h2
   go_enter Tryz.func115,Tryz.ntmps115
   go_wp2_with fail
   go_ret
   exact ⟨rfl,rfl⟩

theorem rshown_any (s : ByteArray) (hs : s.size ≤ 9223372036854775807) (b : Int) (w : World) : Calls Tryz.prog 77 #[.string s,.int .i64 b] w fun e w' => e = .returned (.bool (decide ((s.size : Int) ≤ b) && visB s)) ∧ w' = w := by
 have hN : Hid (∀ k,k < s.size → ¬ (32 < bt s k ∧ bt s k ≤ 126) → visB s = false) := fun k hk h => vis_no hk h
 have hY : Hid ((∀ k,k < s.size → 32 < bt s k ∧ bt s k ≤ 126) → visB s = true) := fun h => decide_eq_true h
 generalize visB s = r at hN hY ⊢
 go_enter Tryz.func77,Tryz.ntmps77
 go_wp2
 go_loopw [5] (fun i wr => ∃ k : Nat,k ≤ s.size ∧ i = .int .i64 k ∧ wr = w ∧ Hid (∀ j,j < k → 32 < bt s j ∧ bt s j ≤ 126)) (fun i _ => s.size - (intOf i).toNat)
 case atStart => exact ⟨0,by omega,rfl,rfl,fun j hj => by omega⟩
 case round =>
  obtain ⟨k,hk,rfl,rfl,hall⟩ := hrel
  by_cases hlt : k < s.size
  ·have hb0 : Hid (bt s k = ((s[k]'hlt).toNat : Int)) := bt_eq hlt
   have hno' : Hid (¬ (32 < bt s k ∧ bt s k ≤ 126) → r = false) := hN.out k hlt
   have hyes : Hid ((32 < bt s k ∧ bt s k ≤ 126) → ∀ j,j < k + 1 → 32 < bt s j ∧ bt s j ≤ 126) := fun hv j hj => by
    by_cases h : j < k
    ·exact hall.out j h
    ·obtain rfl : j = k := by omega
     exact hv
   clear hN hY hall
   by_cases d1 : ((s[k]'hlt).toNat : Int) < 33
   ·have hn := hno'.out (by rw [hb0.out]; omega)
    subst hn
    clear hno' hyes hb0
    go_wp2_with fail
    go_ret
    exact ⟨by first | rfl | (rw [Bool.and_false]; rfl),rfl⟩
   ·by_cases d2 : 126 < ((s[k]'hlt).toNat : Int)
    ·have hn := hno'.out (by rw [hb0.out]; omega)
     subst hn
     clear hno' hyes hb0
     go_wp2_with fail
     go_ret
     exact ⟨by first | rfl | (rw [Bool.and_false]; rfl),rfl⟩
    ·have hy : Hid (∀ j,j < k + 1 → 32 < bt s j ∧ bt s j ≤ 126) := hyes.out (by rw [hb0.out]; omega)
     clear hno' hyes hb0
     go_wp2_with fail
     go_roundw
     case rel => exact ⟨k + 1,by omega,by simp,by first | rfl | trivial,hy⟩
     case measure => simp [intOf]; omega
  ·have hn := hY.out (fun j hj => hall.out j (by omega))
   clear hN hY hall
   subst hn
   go_wp2_with fail
   go_ret
   exact ⟨by first | rfl | (rw [Bool.and_true]; rfl),rfl⟩

def chB3 (s t k : Int) : Bool := bdB (s,0,64) && bdB (t,0,15) && bdB (k,0,1)
theorem chB_3 (r : Sp) : chB r = chB3 r.s r.t r.k := by
 unfold chB chB3 bdB
 rw [Bool.eq_iff_iff]
 simp only [Bool.and_eq_true,decide_eq_true_eq]
 omega
theorem char_any (s t k : Int) (w : World) : Calls Tryz.prog 75 #[.agg #[.int .i64 s,.int .i64 t,.int .i64 k]] w fun e w' => e = .returned (.bool (chB3 s t k)) ∧ Below w.heap.size w w' := by
 have hB := (Below.refl w.heap.size w).alloc (Nat.le_refl _) (Obj.cells #[.int .i64 s,.int .i64 t,.int .i64 k] 90)
 have h1 := from_any s 0 64
 have h2 := from_any t 0 15
 have h3 := bit_any k
 have hv : chB3 s t k = (bdB (s,0,64) && bdB (t,0,15) && bdB (k,0,1)) := rfl
 rw [hv]
 clear hv
 generalize bdB (s,0,64) = b1 at *
 generalize bdB (t,0,15) = b2 at *
 generalize bdB (k,0,1) = b3 at *
 cases b1
 ·go_enter Tryz.func75,Tryz.ntmps75
  go_wp2_with fail
  refine (h1 _).mono ?_
  rintro e w' ⟨rfl,hww⟩
  subst w'
  go_wp2_with fail
  go_ret
  exact ⟨rfl,hB⟩
 ·cases b2
  ·go_enter Tryz.func75,Tryz.ntmps75
   go_wp2_with fail
   refine (h1 _).mono ?_
   rintro e w' ⟨rfl,hww⟩
   subst w'
   go_wp2_with fail
   refine (h2 _).mono ?_
   rintro e w' ⟨rfl,hww⟩
   subst w'
   go_wp2_with fail
   go_ret
   exact ⟨rfl,hB⟩
  ·go_enter Tryz.func75,Tryz.ntmps75
   go_wp2_with fail
   refine (h1 _).mono ?_
   rintro e w' ⟨rfl,hww⟩
   subst w'
   go_wp2_with fail
   refine (h2 _).mono ?_
   rintro e w' ⟨rfl,hww⟩
   subst w'
   go_wp2_with fail
   refine (h3 _).mono ?_
   rintro e w' ⟨rfl,hww⟩
   subst w'
   go_wp2_with fail
   go_ret
   exact ⟨rfl,hB⟩
end Go.Proofs.YthcphnifnfnceaaGreatDoor

namespace Go.Proofs.YthcphnifnfnceaaGreatDoor
open Go.RowKit Go.Shelf
set_option maxRecDepth 100000
set_option maxHeartbeats 4000000

def fr45 (v0 v1 v2 v3 v4 v5 v6 v7 v8 v9 xa xb xc xd xe xf xg xh xi xj xk xl xm xn xo xp xq xr xt xu xv xw xx xy xz xA xB xC xD xE xF xG xH xI xJ xK xL xM xN xO xP xQ xR xS xT xU xV xW xX xY xZ ya yb yc yd ye yf yg yh yi yj yk yl ym yn yo yp yq yr yt yu yv yw yx yy yz yA yB yC yD yE yF : Value) : Act := { tmps := #[v0,v1,v2,v3,v4,v5,v6,v7,v8,v9,xa,xb,xc,xd,xe,xf,xg,xh,xi,xj,xk,xl,xm,xn,xo,xp,xq,xr,xt,xu,xv,xw,xx,xy,xz,xA,xB,xC,xD,xE,xF,xG,xH,xI,xJ,xK,xL,xM,xN,xO,xP,xQ,xR,xS,xT,xU,xV,xW,xX,xY,xZ,ya,yb,yc,yd,ye,yf,yg,yh,yi,yj,yk,yl,ym,yn,yo,yp,yq,yr,yt,yu,yv,yw,yx,yy,yz,yA,yB,yC,yD,yE,yF],defers := [] }
def ops45_1 (ps : String) : Array Oper := #[⟨some 6,.fieldAddr 24 (.tmp 1) 0,0,ps,#[],none⟩,⟨some 7,.load 3 (.tmp 6),3,ps,#[⟨0,.data⟩],none⟩,⟨some 8,.call ⟨.value (.func 110),#[.tmp 7,.const (.int .i64 1),.const (.int .i64 64)],#[3,3,3]⟩,4,ps,#[⟨1,.data⟩],none⟩,⟨some 9,.move (.tmp 8),4,ps,#[⟨2,.data⟩,⟨2,.chain⟩],none⟩,⟨some 10,.fieldAddr 24 (.tmp 1) 1,0,ps,#[⟨3,.guard⟩],some (3,true)⟩,⟨some 11,.load 3 (.tmp 10),3,ps,#[⟨4,.data⟩,⟨3,.guard⟩],some (3,true)⟩,⟨some 12,.call ⟨.value (.func 110),#[.tmp 11,.const (.int .i64 1),.const (.int .i64 255)],#[3,3,3]⟩,4,ps,#[⟨5,.data⟩,⟨3,.chain⟩,⟨3,.guard⟩],some (3,true)⟩,⟨some 13,.pick (.tmp 9) (.tmp 12) (.const (.bool false)),4,ps,#[⟨3,.data⟩,⟨6,.data⟩],none⟩,⟨some 14,.move (.tmp 13),4,ps,#[⟨7,.data⟩,⟨6,.chain⟩],none⟩,⟨some 15,.fieldAddr 24 (.tmp 1) 2,0,ps,#[⟨8,.guard⟩],some (8,true)⟩,⟨some 16,.load 3 (.tmp 15),3,ps,#[⟨9,.data⟩,⟨8,.guard⟩],some (8,true)⟩,⟨some 17,.call ⟨.value (.func 110),#[.tmp 16,.const (.int .i64 0),.const (.int .i64 3)],#[3,3,3]⟩,4,ps,#[⟨10,.data⟩,⟨8,.chain⟩,⟨8,.guard⟩],some (8,true)⟩,⟨some 18,.pick (.tmp 14) (.tmp 17) (.const (.bool false)),4,ps,#[⟨8,.data⟩,⟨11,.data⟩],none⟩,⟨some 3,.assign (.tmp 18),4,ps,#[⟨12,.data⟩,⟨11,.chain⟩,⟨0,.phase⟩,⟨1,.phase⟩,⟨2,.phase⟩,⟨3,.phase⟩,⟨4,.phase⟩,⟨5,.phase⟩,⟨6,.phase⟩,⟨7,.phase⟩,⟨8,.phase⟩,⟨9,.phase⟩,⟨10,.phase⟩,⟨11,.phase⟩,⟨12,.phase⟩],none⟩]
theorem props_r1 (Q : Exit → Act → World → Prop) (id : Nat) (ps : String) {v0 v2 v3 v4 v5 v6 v7 v8 v9 xa xb xc xd xe xf xg xh xi xj xk xl xm xn xo xp xq xr xt xu xv xw xx xy xz xA xB xC xD xE xF xG xH xI xJ xK xL xM xN xO xP xQ xR xS xT xU xV xW xX xY xZ ya yb yc yd ye yf yg yh yi yj yk yl ym yn yo yp yq yr yt yu yv yw yx yy yz yA yB yC yD yE yF : Value} (g : Nat) (x0 x1 x2 : Int) (b0 : Bool) (b1 : Bool) (b2 : Bool)  (w : World)
  (h0 : ∀ w : World,Calls Tryz.prog 110 #[.int .i64 x0,.int .i64 1,.int .i64 64] w fun e w' => e = .returned (.bool b0) ∧ w' = w)
  (h1 : ∀ w : World,Calls Tryz.prog 110 #[.int .i64 x1,.int .i64 1,.int .i64 255] w fun e w' => e = .returned (.bool b1) ∧ w' = w)
  (h2 : ∀ w : World,Calls Tryz.prog 110 #[.int .i64 x2,.int .i64 0,.int .i64 3] w fun e w' => e = .returned (.bool b2) ∧ w' = w)
  (m0 : w.cell? ⟨g,0,none⟩ = some (.int .i64 x0))
  (m1 : w.cell? ⟨g,1,none⟩ = some (.int .i64 x1))
  (m2 : w.cell? ⟨g,2,none⟩ = some (.int .i64 x2))
  (hq : Hid (∀ r,r = (b0 && b1 && b2) → ∀ u6 u7 u8 u9 u10 u11 u12 u13 u14 u15 u16 u17 u18,Q .normal (fr45 v0 (.pointer (some ⟨g,0,none⟩)) v2 (.bool r) v4 v5 u6 u7 u8 u9 u10 u11 u12 u13 u14 u15 u16 u17 u18 xj xk xl xm xn xo xp xq xr xt xu xv xw xx xy xz xA xB xC xD xE xF xG xH xI xJ xK xL xM xN xO xP xQ xR xS xT xU xV xW xX xY xZ ya yb yc yd ye yf yg yh yi yj yk yl ym yn yo yp yq yr yt yu yv yw yx yy yz yA yB yC yD yE yF) w)) :
  (Code.region id (ops45_1 ps) false).wp Tryz.prog Q (fr45 v0 (.pointer (some ⟨g,0,none⟩)) v2 v3 v4 v5 v6 v7 v8 v9 xa xb xc xd xe xf xg xh xi xj xk xl xm xn xo xp xq xr xt xu xv xw xx xy xz xA xB xC xD xE xF xG xH xI xJ xK xL xM xN xO xP xQ xR xS xT xU xV xW xX xY xZ ya yb yc yd ye yf yg yh yi yj yk yl ym yn yo yp yq yr yt yu yv yw yx yy yz yA yB yC yD yE yF) w := by
 unfold ops45_1 fr45
 go_wp2_with fail
 refine (h0 _).mono ?_
 rintro e w' ⟨rfl,hww⟩
 subst w'
 cases b0
 ·go_wp2_with fail
  exact hq.out false (by simp) _ _ _ _ _ _ _ _ _ _ _ _ _
 ·go_wp2_with fail
  refine (h1 _).mono ?_
  rintro e w' ⟨rfl,hww⟩
  subst w'
  cases b1
  ·go_wp2_with fail
   exact hq.out false (by simp) _ _ _ _ _ _ _ _ _ _ _ _ _
  ·go_wp2_with fail
   refine (h2 _).mono ?_
   rintro e w' ⟨rfl,hww⟩
   subst w'
   cases b2
   ·go_wp2_with fail
    exact hq.out false (by simp) _ _ _ _ _ _ _ _ _ _ _ _ _
   ·go_wp2_with fail
    exact hq.out true (by simp) _ _ _ _ _ _ _ _ _ _ _ _ _

def ops45_2 (ps : String) : Array Oper := #[⟨some 19,.fieldAddr 24 (.tmp 1) 3,0,ps,#[],none⟩,⟨some 20,.load 3 (.tmp 19),3,ps,#[⟨0,.data⟩],none⟩,⟨some 21,.call ⟨.value (.func 110),#[.tmp 20,.const (.int .i64 0),.const (.int .i64 255)],#[3,3,3]⟩,4,ps,#[⟨1,.data⟩],none⟩,⟨some 22,.move (.tmp 21),4,ps,#[⟨2,.data⟩,⟨2,.chain⟩],none⟩,⟨some 23,.fieldAddr 24 (.tmp 1) 4,0,ps,#[⟨3,.guard⟩],some (3,true)⟩,⟨some 24,.load 3 (.tmp 23),3,ps,#[⟨4,.data⟩,⟨3,.guard⟩],some (3,true)⟩,⟨some 25,.call ⟨.value (.func 110),#[.tmp 24,.const (.int .i64 0),.const (.int .i64 255)],#[3,3,3]⟩,4,ps,#[⟨5,.data⟩,⟨3,.chain⟩,⟨3,.guard⟩],some (3,true)⟩,⟨some 26,.pick (.tmp 22) (.tmp 25) (.const (.bool false)),4,ps,#[⟨3,.data⟩,⟨6,.data⟩],none⟩,⟨some 27,.move (.tmp 26),4,ps,#[⟨7,.data⟩,⟨6,.chain⟩],none⟩,⟨some 28,.fieldAddr 24 (.tmp 1) 5,0,ps,#[⟨8,.guard⟩],some (8,true)⟩,⟨some 29,.load 3 (.tmp 28),3,ps,#[⟨9,.data⟩,⟨8,.guard⟩],some (8,true)⟩,⟨some 30,.call ⟨.value (.func 110),#[.tmp 29,.const (.int .i64 0),.const (.int .i64 255)],#[3,3,3]⟩,4,ps,#[⟨10,.data⟩,⟨8,.chain⟩,⟨8,.guard⟩],some (8,true)⟩,⟨some 31,.pick (.tmp 27) (.tmp 30) (.const (.bool false)),4,ps,#[⟨8,.data⟩,⟨11,.data⟩],none⟩,⟨some 32,.move (.tmp 31),4,ps,#[⟨12,.data⟩,⟨11,.chain⟩],none⟩,⟨some 33,.fieldAddr 24 (.tmp 1) 6,0,ps,#[⟨13,.guard⟩],some (13,true)⟩,⟨some 34,.load 3 (.tmp 33),3,ps,#[⟨14,.data⟩,⟨13,.guard⟩],some (13,true)⟩,⟨some 35,.call ⟨.value (.func 110),#[.tmp 34,.const (.int .i64 0),.const (.int .i64 255)],#[3,3,3]⟩,4,ps,#[⟨15,.data⟩,⟨13,.chain⟩,⟨13,.guard⟩],some (13,true)⟩,⟨some 36,.pick (.tmp 32) (.tmp 35) (.const (.bool false)),4,ps,#[⟨13,.data⟩,⟨16,.data⟩],none⟩,⟨some 37,.move (.tmp 36),4,ps,#[⟨17,.data⟩,⟨16,.chain⟩],none⟩,⟨some 38,.fieldAddr 24 (.tmp 1) 7,0,ps,#[⟨18,.guard⟩],some (18,true)⟩,⟨some 39,.load 3 (.tmp 38),3,ps,#[⟨19,.data⟩,⟨18,.guard⟩],some (18,true)⟩,⟨some 40,.call ⟨.value (.func 110),#[.tmp 39,.const (.int .i64 0),.const (.int .i64 255)],#[3,3,3]⟩,4,ps,#[⟨20,.data⟩,⟨18,.chain⟩,⟨18,.guard⟩],some (18,true)⟩,⟨some 41,.pick (.tmp 37) (.tmp 40) (.const (.bool false)),4,ps,#[⟨18,.data⟩,⟨21,.data⟩],none⟩,⟨some 4,.assign (.tmp 41),4,ps,#[⟨22,.data⟩,⟨21,.chain⟩,⟨0,.phase⟩,⟨1,.phase⟩,⟨2,.phase⟩,⟨3,.phase⟩,⟨4,.phase⟩,⟨5,.phase⟩,⟨6,.phase⟩,⟨7,.phase⟩,⟨8,.phase⟩,⟨9,.phase⟩,⟨10,.phase⟩,⟨11,.phase⟩,⟨12,.phase⟩,⟨13,.phase⟩,⟨14,.phase⟩,⟨15,.phase⟩,⟨16,.phase⟩,⟨17,.phase⟩,⟨18,.phase⟩,⟨19,.phase⟩,⟨20,.phase⟩,⟨21,.phase⟩,⟨22,.phase⟩],none⟩]
theorem props_r2 (Q : Exit → Act → World → Prop) (id : Nat) (ps : String) {v0 v2 v3 v4 v5 v6 v7 v8 v9 xa xb xc xd xe xf xg xh xi xj xk xl xm xn xo xp xq xr xt xu xv xw xx xy xz xA xB xC xD xE xF xG xH xI xJ xK xL xM xN xO xP xQ xR xS xT xU xV xW xX xY xZ ya yb yc yd ye yf yg yh yi yj yk yl ym yn yo yp yq yr yt yu yv yw yx yy yz yA yB yC yD yE yF : Value} (g : Nat) (x3 x4 x5 x6 x7 : Int) (b3 : Bool) (b4 : Bool) (b5 : Bool) (b6 : Bool) (b7 : Bool)  (w : World)
  (h3 : ∀ w : World,Calls Tryz.prog 110 #[.int .i64 x3,.int .i64 0,.int .i64 255] w fun e w' => e = .returned (.bool b3) ∧ w' = w)
  (h4 : ∀ w : World,Calls Tryz.prog 110 #[.int .i64 x4,.int .i64 0,.int .i64 255] w fun e w' => e = .returned (.bool b4) ∧ w' = w)
  (h5 : ∀ w : World,Calls Tryz.prog 110 #[.int .i64 x5,.int .i64 0,.int .i64 255] w fun e w' => e = .returned (.bool b5) ∧ w' = w)
  (h6 : ∀ w : World,Calls Tryz.prog 110 #[.int .i64 x6,.int .i64 0,.int .i64 255] w fun e w' => e = .returned (.bool b6) ∧ w' = w)
  (h7 : ∀ w : World,Calls Tryz.prog 110 #[.int .i64 x7,.int .i64 0,.int .i64 255] w fun e w' => e = .returned (.bool b7) ∧ w' = w)
  (m3 : w.cell? ⟨g,3,none⟩ = some (.int .i64 x3))
  (m4 : w.cell? ⟨g,4,none⟩ = some (.int .i64 x4))
  (m5 : w.cell? ⟨g,5,none⟩ = some (.int .i64 x5))
  (m6 : w.cell? ⟨g,6,none⟩ = some (.int .i64 x6))
  (m7 : w.cell? ⟨g,7,none⟩ = some (.int .i64 x7))
  (hq : Hid (∀ r,r = (b3 && b4 && b5 && b6 && b7) → ∀ u19 u20 u21 u22 u23 u24 u25 u26 u27 u28 u29 u30 u31 u32 u33 u34 u35 u36 u37 u38 u39 u40 u41,Q .normal (fr45 v0 (.pointer (some ⟨g,0,none⟩)) v2 v3 (.bool r) v5 v6 v7 v8 v9 xa xb xc xd xe xf xg xh xi u19 u20 u21 u22 u23 u24 u25 u26 u27 u28 u29 u30 u31 u32 u33 u34 u35 u36 u37 u38 u39 u40 u41 xH xI xJ xK xL xM xN xO xP xQ xR xS xT xU xV xW xX xY xZ ya yb yc yd ye yf yg yh yi yj yk yl ym yn yo yp yq yr yt yu yv yw yx yy yz yA yB yC yD yE yF) w)) :
  (Code.region id (ops45_2 ps) false).wp Tryz.prog Q (fr45 v0 (.pointer (some ⟨g,0,none⟩)) v2 v3 v4 v5 v6 v7 v8 v9 xa xb xc xd xe xf xg xh xi xj xk xl xm xn xo xp xq xr xt xu xv xw xx xy xz xA xB xC xD xE xF xG xH xI xJ xK xL xM xN xO xP xQ xR xS xT xU xV xW xX xY xZ ya yb yc yd ye yf yg yh yi yj yk yl ym yn yo yp yq yr yt yu yv yw yx yy yz yA yB yC yD yE yF) w := by
 unfold ops45_2 fr45
 go_wp2_with fail
 refine (h3 _).mono ?_
 rintro e w' ⟨rfl,hww⟩
 subst w'
 cases b3
 ·go_wp2_with fail
  exact hq.out false (by simp) _ _ _ _ _ _ _ _ _ _ _ _ _ _ _ _ _ _ _ _ _ _ _
 ·go_wp2_with fail
  refine (h4 _).mono ?_
  rintro e w' ⟨rfl,hww⟩
  subst w'
  cases b4
  ·go_wp2_with fail
   exact hq.out false (by simp) _ _ _ _ _ _ _ _ _ _ _ _ _ _ _ _ _ _ _ _ _ _ _
  ·go_wp2_with fail
   refine (h5 _).mono ?_
   rintro e w' ⟨rfl,hww⟩
   subst w'
   cases b5
   ·go_wp2_with fail
    exact hq.out false (by simp) _ _ _ _ _ _ _ _ _ _ _ _ _ _ _ _ _ _ _ _ _ _ _
   ·go_wp2_with fail
    refine (h6 _).mono ?_
    rintro e w' ⟨rfl,hww⟩
    subst w'
    cases b6
    ·go_wp2_with fail
     exact hq.out false (by simp) _ _ _ _ _ _ _ _ _ _ _ _ _ _ _ _ _ _ _ _ _ _ _
    ·go_wp2_with fail
     refine (h7 _).mono ?_
     rintro e w' ⟨rfl,hww⟩
     subst w'
     cases b7
     ·go_wp2_with fail
      exact hq.out false (by simp) _ _ _ _ _ _ _ _ _ _ _ _ _ _ _ _ _ _ _ _ _ _ _
     ·go_wp2_with fail
      exact hq.out true (by simp) _ _ _ _ _ _ _ _ _ _ _ _ _ _ _ _ _ _ _ _ _ _ _

def ops45_3 (ps : String) : Array Oper := #[⟨some 42,.fieldAddr 24 (.tmp 1) 8,0,ps,#[],none⟩,⟨some 43,.load 3 (.tmp 42),3,ps,#[⟨0,.data⟩],none⟩,⟨some 44,.call ⟨.value (.func 111),#[.tmp 43],#[3]⟩,4,ps,#[⟨1,.data⟩],none⟩,⟨some 45,.move (.tmp 44),4,ps,#[⟨2,.data⟩,⟨2,.chain⟩],none⟩,⟨some 46,.fieldAddr 24 (.tmp 1) 9,0,ps,#[⟨3,.guard⟩],some (3,true)⟩,⟨some 47,.load 3 (.tmp 46),3,ps,#[⟨4,.data⟩,⟨3,.guard⟩],some (3,true)⟩,⟨some 48,.call ⟨.value (.func 111),#[.tmp 47],#[3]⟩,4,ps,#[⟨5,.data⟩,⟨3,.chain⟩,⟨3,.guard⟩],some (3,true)⟩,⟨some 49,.pick (.tmp 45) (.tmp 48) (.const (.bool false)),4,ps,#[⟨3,.data⟩,⟨6,.data⟩],none⟩,⟨some 50,.move (.tmp 49),4,ps,#[⟨7,.data⟩,⟨6,.chain⟩],none⟩,⟨some 51,.fieldAddr 24 (.tmp 1) 12,0,ps,#[⟨8,.guard⟩],some (8,true)⟩,⟨some 52,.load 3 (.tmp 51),3,ps,#[⟨9,.data⟩,⟨8,.guard⟩],some (8,true)⟩,⟨some 53,.call ⟨.value (.func 111),#[.tmp 52],#[3]⟩,4,ps,#[⟨10,.data⟩,⟨8,.chain⟩,⟨8,.guard⟩],some (8,true)⟩,⟨some 54,.pick (.tmp 50) (.tmp 53) (.const (.bool false)),4,ps,#[⟨8,.data⟩,⟨11,.data⟩],none⟩,⟨some 55,.move (.tmp 54),4,ps,#[⟨12,.data⟩,⟨11,.chain⟩],none⟩,⟨some 56,.fieldAddr 24 (.tmp 1) 13,0,ps,#[⟨13,.guard⟩],some (13,true)⟩,⟨some 57,.load 3 (.tmp 56),3,ps,#[⟨14,.data⟩,⟨13,.guard⟩],some (13,true)⟩,⟨some 58,.call ⟨.value (.func 111),#[.tmp 57],#[3]⟩,4,ps,#[⟨15,.data⟩,⟨13,.chain⟩,⟨13,.guard⟩],some (13,true)⟩,⟨some 59,.pick (.tmp 55) (.tmp 58) (.const (.bool false)),4,ps,#[⟨13,.data⟩,⟨16,.data⟩],none⟩,⟨some 5,.assign (.tmp 59),4,ps,#[⟨17,.data⟩,⟨16,.chain⟩,⟨0,.phase⟩,⟨1,.phase⟩,⟨2,.phase⟩,⟨3,.phase⟩,⟨4,.phase⟩,⟨5,.phase⟩,⟨6,.phase⟩,⟨7,.phase⟩,⟨8,.phase⟩,⟨9,.phase⟩,⟨10,.phase⟩,⟨11,.phase⟩,⟨12,.phase⟩,⟨13,.phase⟩,⟨14,.phase⟩,⟨15,.phase⟩,⟨16,.phase⟩,⟨17,.phase⟩],none⟩]
theorem props_r3 (Q : Exit → Act → World → Prop) (id : Nat) (ps : String) {v0 v2 v3 v4 v5 v6 v7 v8 v9 xa xb xc xd xe xf xg xh xi xj xk xl xm xn xo xp xq xr xt xu xv xw xx xy xz xA xB xC xD xE xF xG xH xI xJ xK xL xM xN xO xP xQ xR xS xT xU xV xW xX xY xZ ya yb yc yd ye yf yg yh yi yj yk yl ym yn yo yp yq yr yt yu yv yw yx yy yz yA yB yC yD yE yF : Value} (g : Nat) (x8 x9 x12 x13 : Int) (b8 : Bool) (b9 : Bool) (b12 : Bool) (b13 : Bool)  (w : World)
  (h8 : ∀ w : World,Calls Tryz.prog 111 #[.int .i64 x8] w fun e w' => e = .returned (.bool b8) ∧ w' = w)
  (h9 : ∀ w : World,Calls Tryz.prog 111 #[.int .i64 x9] w fun e w' => e = .returned (.bool b9) ∧ w' = w)
  (h12 : ∀ w : World,Calls Tryz.prog 111 #[.int .i64 x12] w fun e w' => e = .returned (.bool b12) ∧ w' = w)
  (h13 : ∀ w : World,Calls Tryz.prog 111 #[.int .i64 x13] w fun e w' => e = .returned (.bool b13) ∧ w' = w)
  (m8 : w.cell? ⟨g,8,none⟩ = some (.int .i64 x8))
  (m9 : w.cell? ⟨g,9,none⟩ = some (.int .i64 x9))
  (m12 : w.cell? ⟨g,12,none⟩ = some (.int .i64 x12))
  (m13 : w.cell? ⟨g,13,none⟩ = some (.int .i64 x13))
  (hq : Hid (∀ r,r = (b8 && b9 && b12 && b13) → ∀ u42 u43 u44 u45 u46 u47 u48 u49 u50 u51 u52 u53 u54 u55 u56 u57 u58 u59,Q .normal (fr45 v0 (.pointer (some ⟨g,0,none⟩)) v2 v3 v4 (.bool r) v6 v7 v8 v9 xa xb xc xd xe xf xg xh xi xj xk xl xm xn xo xp xq xr xt xu xv xw xx xy xz xA xB xC xD xE xF xG u42 u43 u44 u45 u46 u47 u48 u49 u50 u51 u52 u53 u54 u55 u56 u57 u58 u59 xZ ya yb yc yd ye yf yg yh yi yj yk yl ym yn yo yp yq yr yt yu yv yw yx yy yz yA yB yC yD yE yF) w)) :
  (Code.region id (ops45_3 ps) false).wp Tryz.prog Q (fr45 v0 (.pointer (some ⟨g,0,none⟩)) v2 v3 v4 v5 v6 v7 v8 v9 xa xb xc xd xe xf xg xh xi xj xk xl xm xn xo xp xq xr xt xu xv xw xx xy xz xA xB xC xD xE xF xG xH xI xJ xK xL xM xN xO xP xQ xR xS xT xU xV xW xX xY xZ ya yb yc yd ye yf yg yh yi yj yk yl ym yn yo yp yq yr yt yu yv yw yx yy yz yA yB yC yD yE yF) w := by
 unfold ops45_3 fr45
 go_wp2_with fail
 refine (h8 _).mono ?_
 rintro e w' ⟨rfl,hww⟩
 subst w'
 cases b8
 ·go_wp2_with fail
  exact hq.out false (by simp) _ _ _ _ _ _ _ _ _ _ _ _ _ _ _ _ _ _
 ·go_wp2_with fail
  refine (h9 _).mono ?_
  rintro e w' ⟨rfl,hww⟩
  subst w'
  cases b9
  ·go_wp2_with fail
   exact hq.out false (by simp) _ _ _ _ _ _ _ _ _ _ _ _ _ _ _ _ _ _
  ·go_wp2_with fail
   refine (h12 _).mono ?_
   rintro e w' ⟨rfl,hww⟩
   subst w'
   cases b12
   ·go_wp2_with fail
    exact hq.out false (by simp) _ _ _ _ _ _ _ _ _ _ _ _ _ _ _ _ _ _
   ·go_wp2_with fail
    refine (h13 _).mono ?_
    rintro e w' ⟨rfl,hww⟩
    subst w'
    cases b13
    ·go_wp2_with fail
     exact hq.out false (by simp) _ _ _ _ _ _ _ _ _ _ _ _ _ _ _ _ _ _
    ·go_wp2_with fail
     exact hq.out true (by simp) _ _ _ _ _ _ _ _ _ _ _ _ _ _ _ _ _ _

def ops45_4 (ps : String) : Array Oper := #[⟨some 60,.move (.tmp 3),4,ps,#[],none⟩,⟨some 61,.move (.tmp 60),4,ps,#[⟨0,.data⟩],none⟩,⟨some 62,.move (.tmp 4),4,ps,#[⟨1,.guard⟩],some (1,true)⟩,⟨some 63,.pick (.tmp 61) (.tmp 62) (.const (.bool false)),4,ps,#[⟨1,.data⟩,⟨2,.data⟩],none⟩,⟨some 64,.move (.tmp 63),4,ps,#[⟨3,.data⟩,⟨1,.chain⟩],none⟩,⟨some 65,.move (.tmp 5),4,ps,#[⟨4,.guard⟩],some (4,true)⟩,⟨some 66,.pick (.tmp 64) (.tmp 65) (.const (.bool false)),4,ps,#[⟨4,.data⟩,⟨5,.data⟩],none⟩,⟨some 67,.move (.tmp 66),4,ps,#[⟨6,.data⟩,⟨4,.chain⟩],none⟩,⟨some 68,.fieldAddr 24 (.tmp 1) 10,0,ps,#[⟨7,.guard⟩],some (7,true)⟩,⟨some 69,.load 3 (.tmp 68),3,ps,#[⟨8,.data⟩,⟨7,.guard⟩],some (7,true)⟩,⟨some 70,.call ⟨.value (.func 110),#[.tmp 69,.const (.int .i64 1),.const (.int .i64 4)],#[3,3,3]⟩,4,ps,#[⟨9,.data⟩,⟨7,.chain⟩,⟨7,.guard⟩],some (7,true)⟩,⟨some 71,.pick (.tmp 67) (.tmp 70) (.const (.bool false)),4,ps,#[⟨7,.data⟩,⟨10,.data⟩],none⟩,⟨some 72,.move (.tmp 71),4,ps,#[⟨11,.data⟩,⟨10,.chain⟩],none⟩,⟨some 73,.fieldAddr 24 (.tmp 1) 11,0,ps,#[⟨12,.guard⟩],some (12,true)⟩,⟨some 74,.load 3 (.tmp 73),3,ps,#[⟨13,.data⟩,⟨12,.guard⟩],some (12,true)⟩,⟨some 75,.call ⟨.value (.func 110),#[.tmp 74,.const (.int .i64 1),.const (.int .i64 4)],#[3,3,3]⟩,4,ps,#[⟨14,.data⟩,⟨12,.chain⟩,⟨12,.guard⟩],some (12,true)⟩,⟨some 76,.pick (.tmp 72) (.tmp 75) (.const (.bool false)),4,ps,#[⟨12,.data⟩,⟨15,.data⟩],none⟩,⟨some 77,.move (.tmp 76),4,ps,#[⟨16,.data⟩,⟨15,.chain⟩],none⟩,⟨some 78,.fieldAddr 24 (.tmp 1) 14,0,ps,#[⟨17,.guard⟩],some (17,true)⟩,⟨some 79,.load 3 (.tmp 78),3,ps,#[⟨18,.data⟩,⟨17,.guard⟩],some (17,true)⟩,⟨some 80,.call ⟨.value (.func 110),#[.tmp 79,.const (.int .i64 0),.const (.int .i64 4)],#[3,3,3]⟩,4,ps,#[⟨19,.data⟩,⟨17,.chain⟩,⟨17,.guard⟩],some (17,true)⟩,⟨some 81,.pick (.tmp 77) (.tmp 80) (.const (.bool false)),4,ps,#[⟨17,.data⟩,⟨20,.data⟩],none⟩,⟨some 82,.move (.tmp 81),4,ps,#[⟨21,.data⟩,⟨20,.chain⟩],none⟩,⟨some 83,.fieldAddr 24 (.tmp 1) 15,0,ps,#[⟨22,.guard⟩],some (22,true)⟩,⟨some 84,.load 3 (.tmp 83),3,ps,#[⟨23,.data⟩,⟨22,.guard⟩],some (22,true)⟩,⟨some 85,.call ⟨.value (.func 110),#[.tmp 84,.const (.int .i64 0),.const (.int .i64 8)],#[3,3,3]⟩,4,ps,#[⟨24,.data⟩,⟨22,.chain⟩,⟨22,.guard⟩],some (22,true)⟩,⟨some 86,.pick (.tmp 82) (.tmp 85) (.const (.bool false)),4,ps,#[⟨22,.data⟩,⟨25,.data⟩],none⟩,⟨some 87,.move (.tmp 86),4,ps,#[⟨26,.data⟩,⟨25,.chain⟩],none⟩,⟨some 88,.fieldAddr 24 (.tmp 1) 16,0,ps,#[⟨27,.guard⟩],some (27,true)⟩,⟨some 89,.load 3 (.tmp 88),3,ps,#[⟨28,.data⟩,⟨27,.guard⟩],some (27,true)⟩,⟨some 90,.call ⟨.value (.func 110),#[.tmp 89,.const (.int .i64 0),.const (.int .i64 3)],#[3,3,3]⟩,4,ps,#[⟨29,.data⟩,⟨27,.chain⟩,⟨27,.guard⟩],some (27,true)⟩,⟨some 91,.pick (.tmp 87) (.tmp 90) (.const (.bool false)),4,ps,#[⟨27,.data⟩,⟨30,.data⟩],none⟩,⟨some 2,.assign (.tmp 91),4,ps,#[⟨31,.data⟩,⟨30,.chain⟩,⟨0,.phase⟩,⟨1,.phase⟩,⟨2,.phase⟩,⟨3,.phase⟩,⟨4,.phase⟩,⟨5,.phase⟩,⟨6,.phase⟩,⟨7,.phase⟩,⟨8,.phase⟩,⟨9,.phase⟩,⟨10,.phase⟩,⟨11,.phase⟩,⟨12,.phase⟩,⟨13,.phase⟩,⟨14,.phase⟩,⟨15,.phase⟩,⟨16,.phase⟩,⟨17,.phase⟩,⟨18,.phase⟩,⟨19,.phase⟩,⟨20,.phase⟩,⟨21,.phase⟩,⟨22,.phase⟩,⟨23,.phase⟩,⟨24,.phase⟩,⟨25,.phase⟩,⟨26,.phase⟩,⟨27,.phase⟩,⟨28,.phase⟩,⟨29,.phase⟩,⟨30,.phase⟩,⟨31,.phase⟩],none⟩]
theorem props_r4 (Q : Exit → Act → World → Prop) (id : Nat) (ps : String) {v0 v2 v6 v7 v8 v9 xa xb xc xd xe xf xg xh xi xj xk xl xm xn xo xp xq xr xt xu xv xw xx xy xz xA xB xC xD xE xF xG xH xI xJ xK xL xM xN xO xP xQ xR xS xT xU xV xW xX xY xZ ya yb yc yd ye yf yg yh yi yj yk yl ym yn yo yp yq yr yt yu yv yw yx yy yz yA yB yC yD yE yF : Value} (g : Nat) (x10 x11 x14 x15 x16 : Int) (b10 : Bool) (b11 : Bool) (b14 : Bool) (b15 : Bool) (b16 : Bool) (c3 : Bool) (c4 : Bool) (c5 : Bool) (w : World)
  (h10 : ∀ w : World,Calls Tryz.prog 110 #[.int .i64 x10,.int .i64 1,.int .i64 4] w fun e w' => e = .returned (.bool b10) ∧ w' = w)
  (h11 : ∀ w : World,Calls Tryz.prog 110 #[.int .i64 x11,.int .i64 1,.int .i64 4] w fun e w' => e = .returned (.bool b11) ∧ w' = w)
  (h14 : ∀ w : World,Calls Tryz.prog 110 #[.int .i64 x14,.int .i64 0,.int .i64 4] w fun e w' => e = .returned (.bool b14) ∧ w' = w)
  (h15 : ∀ w : World,Calls Tryz.prog 110 #[.int .i64 x15,.int .i64 0,.int .i64 8] w fun e w' => e = .returned (.bool b15) ∧ w' = w)
  (h16 : ∀ w : World,Calls Tryz.prog 110 #[.int .i64 x16,.int .i64 0,.int .i64 3] w fun e w' => e = .returned (.bool b16) ∧ w' = w)
  (m10 : w.cell? ⟨g,10,none⟩ = some (.int .i64 x10))
  (m11 : w.cell? ⟨g,11,none⟩ = some (.int .i64 x11))
  (m14 : w.cell? ⟨g,14,none⟩ = some (.int .i64 x14))
  (m15 : w.cell? ⟨g,15,none⟩ = some (.int .i64 x15))
  (m16 : w.cell? ⟨g,16,none⟩ = some (.int .i64 x16))
  (hq : Hid (∀ r,r = (c3 && c4 && c5 && b10 && b11 && b14 && b15 && b16) → ∀ u60 u61 u62 u63 u64 u65 u66 u67 u68 u69 u70 u71 u72 u73 u74 u75 u76 u77 u78 u79 u80 u81 u82 u83 u84 u85 u86 u87 u88 u89 u90 u91,Q .normal (fr45 v0 (.pointer (some ⟨g,0,none⟩)) (.bool r) (.bool c3) (.bool c4) (.bool c5) v6 v7 v8 v9 xa xb xc xd xe xf xg xh xi xj xk xl xm xn xo xp xq xr xt xu xv xw xx xy xz xA xB xC xD xE xF xG xH xI xJ xK xL xM xN xO xP xQ xR xS xT xU xV xW xX xY u60 u61 u62 u63 u64 u65 u66 u67 u68 u69 u70 u71 u72 u73 u74 u75 u76 u77 u78 u79 u80 u81 u82 u83 u84 u85 u86 u87 u88 u89 u90 u91) w)) :
  (Code.region id (ops45_4 ps) false).wp Tryz.prog Q (fr45 v0 (.pointer (some ⟨g,0,none⟩)) v2 (.bool c3) (.bool c4) (.bool c5) v6 v7 v8 v9 xa xb xc xd xe xf xg xh xi xj xk xl xm xn xo xp xq xr xt xu xv xw xx xy xz xA xB xC xD xE xF xG xH xI xJ xK xL xM xN xO xP xQ xR xS xT xU xV xW xX xY xZ ya yb yc yd ye yf yg yh yi yj yk yl ym yn yo yp yq yr yt yu yv yw yx yy yz yA yB yC yD yE yF) w := by
 unfold ops45_4 fr45
 cases c3
 ·go_wp2_with fail
  exact hq.out false (by simp) _ _ _ _ _ _ _ _ _ _ _ _ _ _ _ _ _ _ _ _ _ _ _ _ _ _ _ _ _ _ _ _
 ·cases c4
  ·go_wp2_with fail
   exact hq.out false (by simp) _ _ _ _ _ _ _ _ _ _ _ _ _ _ _ _ _ _ _ _ _ _ _ _ _ _ _ _ _ _ _ _
  ·cases c5
   ·go_wp2_with fail
    exact hq.out false (by simp) _ _ _ _ _ _ _ _ _ _ _ _ _ _ _ _ _ _ _ _ _ _ _ _ _ _ _ _ _ _ _ _
   ·go_wp2_with fail
    refine (h10 _).mono ?_
    rintro e w' ⟨rfl,hww⟩
    subst w'
    cases b10
    ·go_wp2_with fail
     exact hq.out false (by simp) _ _ _ _ _ _ _ _ _ _ _ _ _ _ _ _ _ _ _ _ _ _ _ _ _ _ _ _ _ _ _ _
    ·go_wp2_with fail
     refine (h11 _).mono ?_
     rintro e w' ⟨rfl,hww⟩
     subst w'
     cases b11
     ·go_wp2_with fail
      exact hq.out false (by simp) _ _ _ _ _ _ _ _ _ _ _ _ _ _ _ _ _ _ _ _ _ _ _ _ _ _ _ _ _ _ _ _
     ·go_wp2_with fail
      refine (h14 _).mono ?_
      rintro e w' ⟨rfl,hww⟩
      subst w'
      cases b14
      ·go_wp2_with fail
       exact hq.out false (by simp) _ _ _ _ _ _ _ _ _ _ _ _ _ _ _ _ _ _ _ _ _ _ _ _ _ _ _ _ _ _ _ _
      ·go_wp2_with fail
       refine (h15 _).mono ?_
       rintro e w' ⟨rfl,hww⟩
       subst w'
       cases b15
       ·go_wp2_with fail
        exact hq.out false (by simp) _ _ _ _ _ _ _ _ _ _ _ _ _ _ _ _ _ _ _ _ _ _ _ _ _ _ _ _ _ _ _ _
       ·go_wp2_with fail
        refine (h16 _).mono ?_
        rintro e w' ⟨rfl,hww⟩
        subst w'
        cases b16
        ·go_wp2_with fail
         exact hq.out false (by simp) _ _ _ _ _ _ _ _ _ _ _ _ _ _ _ _ _ _ _ _ _ _ _ _ _ _ _ _ _ _ _ _
        ·go_wp2_with fail
         exact hq.out true (by simp) _ _ _ _ _ _ _ _ _ _ _ _ _ _ _ _ _ _ _ _ _ _ _ _ _ _ _ _ _ _ _ _


theorem props_any (p : Pr) (w : World) : Calls Tryz.prog 76 #[.agg (prL p).toArray] w fun e w' => e = .returned (.bool (keepB (prB p))) ∧ Below w.heap.size w w' := by
 obtain ⟨x0,x1,x2,x3,x4,x5,x6,x7,x8,x9,x10,x11,x12,x13,x14,x15,x16⟩ := p
 have hB := (Below.refl w.heap.size w).alloc (Nat.le_refl _) (.cells #[.int .i64 x0,.int .i64 x1,.int .i64 x2,.int .i64 x3,.int .i64 x4,.int .i64 x5,.int .i64 x6,.int .i64 x7,.int .i64 x8,.int .i64 x9,.int .i64 x10,.int .i64 x11,.int .i64 x12,.int .i64 x13,.int .i64 x14,.int .i64 x15,.int .i64 x16] 24)
 have hrow : (w.alloc (.cells #[.int .i64 x0,.int .i64 x1,.int .i64 x2,.int .i64 x3,.int .i64 x4,.int .i64 x5,.int .i64 x6,.int .i64 x7,.int .i64 x8,.int .i64 x9,.int .i64 x10,.int .i64 x11,.int .i64 x12,.int .i64 x13,.int .i64 x14,.int .i64 x15,.int .i64 x16] 24)).heap[w.heap.size]? = some (.cells #[.int .i64 x0,.int .i64 x1,.int .i64 x2,.int .i64 x3,.int .i64 x4,.int .i64 x5,.int .i64 x6,.int .i64 x7,.int .i64 x8,.int .i64 x9,.int .i64 x10,.int .i64 x11,.int .i64 x12,.int .i64 x13,.int .i64 x14,.int .i64 x15,.int .i64 x16] 24) := World.alloc_heap_new w _
 have C : Hid (∀ (k : Nat) {v : Value},#[.int .i64 x0,.int .i64 x1,.int .i64 x2,.int .i64 x3,.int .i64 x4,.int .i64 x5,.int .i64 x6,.int .i64 x7,.int .i64 x8,.int .i64 x9,.int .i64 x10,.int .i64 x11,.int .i64 x12,.int .i64 x13,.int .i64 x14,.int .i64 x15,.int .i64 x16][k]? = some v → (w.alloc (.cells #[.int .i64 x0,.int .i64 x1,.int .i64 x2,.int .i64 x3,.int .i64 x4,.int .i64 x5,.int .i64 x6,.int .i64 x7,.int .i64 x8,.int .i64 x9,.int .i64 x10,.int .i64 x11,.int .i64 x12,.int .i64 x13,.int .i64 x14,.int .i64 x15,.int .i64 x16] 24)).cell? ⟨w.heap.size,k,none⟩ = some v) := fun k v h => by
  rw [Lib.cell_of_heap hrow,h]
 clear hrow
 show Calls Tryz.prog 76 #[.agg #[.int .i64 x0,.int .i64 x1,.int .i64 x2,.int .i64 x3,.int .i64 x4,.int .i64 x5,.int .i64 x6,.int .i64 x7,.int .i64 x8,.int .i64 x9,.int .i64 x10,.int .i64 x11,.int .i64 x12,.int .i64 x13,.int .i64 x14,.int .i64 x15,.int .i64 x16]] w _
 go_enter Tryz.func76,Tryz.ntmps76
 apply wp_seq_k; intro K0 hK0
 replace hK0 : Hid _ := hK0
 go_wp2_with fail
 refine hK0.out _ _ ?_
 clear hK0 K0
 apply wp_seq_k; intro K1 hK1
 refine props_r1 _ _ _ w.heap.size _ _ _ _ _ _  _ (from_any x0 1 64) (from_any x1 1 255) (from_any x2 0 3) (C.out 0 rfl) (C.out 1 rfl) (C.out 2 rfl) (fun r1 e1 _ _ _ _ _ _ _ _ _ _ _ _ _ => hK1 _ _ ?_)
 clear hK1 K1
 apply wp_seq_k; intro K2 hK2
 refine props_r2 _ _ _ w.heap.size _ _ _ _ _ _ _ _ _ _  _ (from_any x3 0 255) (from_any x4 0 255) (from_any x5 0 255) (from_any x6 0 255) (from_any x7 0 255) (C.out 3 rfl) (C.out 4 rfl) (C.out 5 rfl) (C.out 6 rfl) (C.out 7 rfl) (fun r2 e2 _ _ _ _ _ _ _ _ _ _ _ _ _ _ _ _ _ _ _ _ _ _ _ => hK2 _ _ ?_)
 clear hK2 K2
 apply wp_seq_k; intro K3 hK3
 refine props_r3 _ _ _ w.heap.size _ _ _ _ _ _ _ _  _ (bit_any x8) (bit_any x9) (bit_any x12) (bit_any x13) (C.out 8 rfl) (C.out 9 rfl) (C.out 12 rfl) (C.out 13 rfl) (fun r3 e3 _ _ _ _ _ _ _ _ _ _ _ _ _ _ _ _ _ _ => hK3 _ _ ?_)
 clear hK3 K3
 apply wp_seq_k; intro K4 hK4
 refine props_r4 _ _ _ w.heap.size _ _ _ _ _ _ _ _ _ _ _ _ _ _ (from_any x10 1 4) (from_any x11 1 4) (from_any x14 0 4) (from_any x15 0 8) (from_any x16 0 3) (C.out 10 rfl) (C.out 11 rfl) (C.out 14 rfl) (C.out 15 rfl) (C.out 16 rfl) (fun r4 e4 _ _ _ _ _ _ _ _ _ _ _ _ _ _ _ _ _ _ _ _ _ _ _ _ _ _ _ _ _ _ _ _ => hK4 _ _ ?_)
 clear hK4 K4
 replace e1 : Hid _ := e1
 replace e2 : Hid _ := e2
 replace e3 : Hid _ := e3
 replace e4 : Hid _ := e4
 unfold fr45
 go_wp2_with fail
 go_ret
 refine ⟨?_,hB⟩
 show Ending.returned (Value.bool r4) = _
 rw [e4.out,e1.out,e2.out,e3.out]
 simp only [keepB,prB,List.all_cons,List.all_nil,Bool.and_true]
 congr 2
 ac_rfl
end Go.Proofs.YthcphnifnfnceaaGreatDoor
