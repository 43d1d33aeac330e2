/-
  What is proved here: the document's Items: a penalty is made; items are appended.
-/
import Derived.Test.YthcphnifnfnceaaGreatDoorG2
import Derived.Test.YthcphnifnfnceaaGreatDoorG28
namespace Go.Proofs.YthcphnifnfnceaaGreatDoor
open Go.RowKit Go.Shelf
set_option maxRecDepth 100000
set_option maxHeartbeats 1000000

theorem is_new {w1 : World} {v : Value} {xs : List It} {W : World} (h : IS w1 v xs W) (x y : It) : IS w1 v xs ((W.alloc (.cells (itC x) 51)).setRow W.heap.size (itC y)) ∧ IX ((W.alloc (.cells (itC x) 51)).setRow W.heap.size (itC y)) W.heap.size y :=
 ⟨h.step (below_row ((Below.refl _ _).alloc (Nat.le_refl _) _) (by simp) (Nat.le_refl _) _),IX.set (IX.new W x) y⟩
def ops10q_0 (ps : String) : Oper := ⟨some 83,.move (.tmp 5),54,ps,#[],none⟩
def ops10q_1 (ps : String) : Oper := ⟨some 84,.move (.tmp 10),3,ps,#[],none⟩
def ops10q_2 (ps : String) : Oper := ⟨some 85,.indexAddr 54 (.tmp 83) (.tmp 84),0,ps,#[⟨0,.data⟩,⟨1,.data⟩],none⟩
def ops10q_3 (ps : String) : Oper := ⟨some 86,.fieldAddr 58 (.tmp 85) 0,0,ps,#[⟨2,.data⟩],none⟩
def ops10q_4 (ps : String) : Oper := ⟨some 87,.load 3 (.tmp 86),3,ps,#[⟨3,.data⟩],none⟩
def ops10q_5 (ps : String) : Oper := ⟨some 88,.move (.tmp 5),54,ps,#[],none⟩
def ops10q_6 (ps : String) : Oper := ⟨some 89,.move (.tmp 10),3,ps,#[],none⟩
def ops10q_7 (ps : String) : Oper := ⟨some 90,.indexAddr 54 (.tmp 88) (.tmp 89),0,ps,#[⟨5,.data⟩,⟨6,.data⟩],none⟩
def ops10q_8 (ps : String) : Oper := ⟨some 91,.fieldAddr 58 (.tmp 90) 0,0,ps,#[⟨7,.data⟩],none⟩
def ops10q_9 (ps : String) : Oper := ⟨some 92,.load 3 (.tmp 91),3,ps,#[⟨8,.data⟩],none⟩
def ops10q_10 (ps : String) : Oper := ⟨some 93,.build 51 #[(0,.const (.int .i64 3)),(1,.tmp 87),(2,.tmp 92),(6,.const (.int .i64 50))],51,ps,#[⟨4,.data⟩,⟨9,.data⟩],none⟩
def ops10q_11 (ps : String) : Oper := ⟨some 12,.alloc 51,0,ps,#[],none⟩
def ops10q_12 (ps : String) : Oper := ⟨none,.store 51 (.tmp 12) (.tmp 93),0,ps,#[⟨11,.data⟩,⟨10,.data⟩,⟨0,.phase⟩,⟨1,.phase⟩,⟨2,.phase⟩,⟨3,.phase⟩,⟨4,.phase⟩,⟨5,.phase⟩,⟨6,.phase⟩,⟨7,.phase⟩,⟨8,.phase⟩,⟨9,.phase⟩,⟨10,.phase⟩,⟨11,.phase⟩],none⟩
def ops10q (ps : String) : Array Oper := #[ops10q_0 ps,ops10q_1 ps,ops10q_2 ps,ops10q_3 ps,ops10q_4 ps,ops10q_5 ps,ops10q_6 ps,ops10q_7 ps,ops10q_8 ps,ops10q_9 ps,ops10q_10 ps,ops10q_11 ps,ops10q_12 ps]

theorem ri_r17 (Q : Exit → Act → World → Prop) (hQ : ∀ c x (n : Nat) v w,Q (.panic c) (x.put (some n) v) w → Q (.panic c) x w) (id : Nat) (ps : String) {v0 v1 v2 v3 v4 v6 v7 v8 v9 xa xb xc xd xe xf xg xh xi xj xk xl xm xn xo xp xq xr xt xu xv xw xx xy xz xA xB xC xD xE xF xG xH xI xJ xK xL xM xN xO xP xQ xR xS xT xU xV xW xX xY xZ ya yb yc yd ye yf yg yh yi yj yk yl ym yn yo yp yq yr yt yu yv yw yx yy yz yA yB yC yD yE yF yG yH yI yJ yK yL yM yN yO yP yQ yR yS yT yU yV yW yX yY yZ za zb zc zd ze zf zg zh zi zj zk zl zm zn zo zp zq zr zs zt zu zv zw zx zy zz : Value} (w1 : World) (vv : Value) (xs : List It) (f : Int) (g o n cap k : Nat) (w : World) (hS : (fun W => IS w1 vv xs W ∧ W.cell? ⟨g,o + k * 6,none⟩ = some (.int .i64 f) ∧ g < w1.heap.size) (World.drew w))
  (hk : (k : Int) < n)
  (hq : Hid (∀ D W,IS w1 vv xs W → IX W D ⟨3,f,f,0,0,0,50,false⟩ → w1.heap.size ≤ D → (∀ b,vv.ownBlock = some b → b ≠ D) → ∀ u83 u84 u85 u86 u87 u88 u89 u90 u91 u92 u93,Q .normal (fr10 v0 v1 v2 v3 v4 (.slice (some ⟨g,o,none⟩) n cap) v6 v7 v8 v9 (.int .i64 ((k : Nat))) xa (.pointer (some ⟨D,0,none⟩)) xc xd xe xf xg xh xi xj xk xl xm xn xo xp xq xr xt xu xv xw xx xy xz xA xB xC xD xE xF xG xH xI xJ xK xL xM xN xO xP xQ xR xS xT xU xV xW xX xY xZ ya yb yc yd ye yf yg yh yi yj yk yl ym yn yo yp yq yr yt yu yv u83 u84 u85 u86 u87 u88 u89 u90 u91 u92 u93 yH yI yJ yK yL yM yN yO yP yQ yR yS yT yU yV yW yX yY yZ za zb zc zd ze zf zg zh zi zj zk zl zm zn zo zp zq zr zs zt zu zv zw zx zy zz) W)) :
  (Code.region id (ops10q ps) true).wp Tryz.prog Q (fr10 v0 v1 v2 v3 v4 (.slice (some ⟨g,o,none⟩) n cap) v6 v7 v8 v9 (.int .i64 ((k : Nat))) xa xb xc xd xe xf xg xh xi xj xk xl xm xn xo xp xq xr xt xu xv xw xx xy xz xA xB xC xD xE xF xG xH xI xJ xK xL xM xN xO xP xQ xR xS xT xU xV xW xX xY xZ ya yb yc yd ye yf yg yh yi yj yk yl ym yn yo yp yq yr yt yu yv yw yx yy yz yA yB yC yD yE yF yG yH yI yJ yK yL yM yN yO yP yQ yR yS yT yU yV yW yX yY yZ za zb zc zd ze zf zg zh zi zj zk zl zm zn zo zp zq zr zs zt zu zv zw zx zy zz) w := by
 refine wp_region_held (S := (fun W => IS w1 vv xs W ∧ W.cell? ⟨g,o + k * 6,none⟩ = some (.int .i64 f) ∧ g < w1.heap.size)) (by kernel_rfl) ?_
 change wpAnyH _ _ _ _ _ 13 _ _ (World.drew w)
 refine pures_h (fuel := 11) (by kernel_rfl) hQ hS [0,1] (fr10 v0 v1 v2 v3 v4 (.slice (some ⟨g,o,none⟩) n cap) v6 v7 v8 v9 (.int .i64 ((k : Nat))) xa xb xc xd xe xf xg xh xi xj xk xl xm xn xo xp xq xr xt xu xv xw xx xy xz xA xB xC xD xE xF xG xH xI xJ xK xL xM xN xO xP xQ xR xS xT xU xV xW xX xY xZ ya yb yc yd ye yf yg yh yi yj yk yl ym yn yo yp yq yr yt yu yv (.slice (some ⟨g,o,none⟩) n cap) (.int .i64 ((k : Nat))) yy yz yA yB yC yD yE yF yG yH yI yJ yK yL yM yN yO yP yQ yR yS yT yU yV yW yX yY yZ za zb zc zd ze zf zg zh zi zj zk zl zm zn zo zp zq zr zs zt zu zv zw zx zy zz) (by kernel_rfl) (by kernel_rfl) ?_
 refine take_r 2 ⟨some 85,.indexAddr 54 (.tmp 83) (.tmp 84),0,ps,#[⟨0,.data⟩,⟨1,.data⟩],none⟩ (.pointer (some ⟨g,o + k * 6,none⟩)) hQ (fun w hS => by unfold fr10; go_simp) hS ?_
 refine take_r 3 ⟨some 86,.fieldAddr 58 (.tmp 85) 0,0,ps,#[⟨2,.data⟩],none⟩ (.pointer (some ⟨g,o + k * 6,none⟩)) hQ (fun w hS => by unfold fr10; go_simp) hS ?_
 refine take_r 4 ⟨some 87,.load 3 (.tmp 86),3,ps,#[⟨3,.data⟩],none⟩ (.int .i64 f) hQ (fun w hS => by have e := hS.2.1; unfold fr10; go_simp) hS ?_
 refine pures_h (fuel := 6) (by kernel_rfl) hQ hS [5,6] (fr10 v0 v1 v2 v3 v4 (.slice (some ⟨g,o,none⟩) n cap) v6 v7 v8 v9 (.int .i64 ((k : Nat))) xa xb xc xd xe xf xg xh xi xj xk xl xm xn xo xp xq xr xt xu xv xw xx xy xz xA xB xC xD xE xF xG xH xI xJ xK xL xM xN xO xP xQ xR xS xT xU xV xW xX xY xZ ya yb yc yd ye yf yg yh yi yj yk yl ym yn yo yp yq yr yt yu yv (.slice (some ⟨g,o,none⟩) n cap) (.int .i64 ((k : Nat))) (.pointer (some ⟨g,o + k * 6,none⟩)) (.pointer (some ⟨g,o + k * 6,none⟩)) (.int .i64 f) (.slice (some ⟨g,o,none⟩) n cap) (.int .i64 ((k : Nat))) yD yE yF yG yH yI yJ yK yL yM yN yO yP yQ yR yS yT yU yV yW yX yY yZ za zb zc zd ze zf zg zh zi zj zk zl zm zn zo zp zq zr zs zt zu zv zw zx zy zz) (by kernel_rfl) (by kernel_rfl) ?_
 refine take_r 7 ⟨some 90,.indexAddr 54 (.tmp 88) (.tmp 89),0,ps,#[⟨5,.data⟩,⟨6,.data⟩],none⟩ (.pointer (some ⟨g,o + k * 6,none⟩)) hQ (fun w hS => by unfold fr10; go_simp) hS ?_
 refine take_r 8 ⟨some 91,.fieldAddr 58 (.tmp 90) 0,0,ps,#[⟨7,.data⟩],none⟩ (.pointer (some ⟨g,o + k * 6,none⟩)) hQ (fun w hS => by unfold fr10; go_simp) hS ?_
 refine take_r 9 ⟨some 92,.load 3 (.tmp 91),3,ps,#[⟨8,.data⟩],none⟩ (.int .i64 f) hQ (fun w hS => by have e := hS.2.1; unfold fr10; go_simp) hS ?_
 refine take_r 10 ⟨some 93,.build 51 #[(0,.const (.int .i64 3)),(1,.tmp 87),(2,.tmp 92),(6,.const (.int .i64 50))],51,ps,#[⟨4,.data⟩,⟨9,.data⟩],none⟩ (.agg (itC ⟨3,f,f,0,0,0,50,false⟩)) hQ (fun w hS => by unfold fr10; go_simp; try rfl) hS ?_
 refine want_k 11 (ops10q_11 ps) fun K hK => ?_
 unfold fr10 ops10q_11
 go_simp
 have hS2 : (fun W => IS w1 vv xs W ∧ W.cell? ⟨g,o + k * 6,none⟩ = some (.int .i64 f) ∧ g < w1.heap.size) ((World.drew w).alloc (.cells (itC it0) 51)) := ⟨hS.1.step ((Below.refl _ _).alloc (Nat.le_refl _) _),(((Below.refl (World.drew w).heap.size (World.drew w)).alloc (Nat.le_refl _) (.cells (itC it0) 51)).cell (Nat.lt_of_lt_of_le hS.2.2 hS.1.be.size)).trans hS.2.1,hS.2.2⟩
 refine hK _ _ hS2 (cast_h (fr10 v0 v1 v2 v3 v4 (.slice (some ⟨g,o,none⟩) n cap) v6 v7 v8 v9 (.int .i64 ((k : Nat))) xa (.pointer (some ⟨(World.drew w).heap.size,0,none⟩)) xc xd xe xf xg xh xi xj xk xl xm xn xo xp xq xr xt xu xv xw xx xy xz xA xB xC xD xE xF xG xH xI xJ xK xL xM xN xO xP xQ xR xS xT xU xV xW xX xY xZ ya yb yc yd ye yf yg yh yi yj yk yl ym yn yo yp yq yr yt yu yv (.slice (some ⟨g,o,none⟩) n cap) (.int .i64 ((k : Nat))) (.pointer (some ⟨g,o + k * 6,none⟩)) (.pointer (some ⟨g,o + k * 6,none⟩)) (.int .i64 f) (.slice (some ⟨g,o,none⟩) n cap) (.int .i64 ((k : Nat))) (.pointer (some ⟨g,o + k * 6,none⟩)) (.pointer (some ⟨g,o + k * 6,none⟩)) (.int .i64 f) (.agg (itC ⟨3,f,f,0,0,0,50,false⟩)) yH yI yJ yK yL yM yN yO yP yQ yR yS yT yU yV yW yX yY yZ za zb zc zd ze zf zg zh zi zj zk zl zm zn zo zp zq zr zs zt zu zv zw zx zy zz) (by kernel_rfl) ?_)
 clear hK K
 refine want_k 12 (ops10q_12 ps) fun K hK => ?_
 refine wp_store_row 51 (.tmp 12) (.tmp 93) (by unfold ops10q_12; rfl) (World.drew w).heap.size (itC ⟨3,f,f,0,0,0,50,false⟩) rfl rfl 51 _ (IX.new (World.drew w) it0).row (info51 _) rfl (itC_one _) ?_
 have hS3 : (fun W => IS w1 vv xs W ∧ W.cell? ⟨g,o + k * 6,none⟩ = some (.int .i64 f) ∧ g < w1.heap.size) (((World.drew w).alloc (.cells (itC it0) 51)).setRow (World.drew w).heap.size (itC ⟨3,f,f,0,0,0,50,false⟩)) := ⟨(is_new hS.1 it0 ⟨3,f,f,0,0,0,50,false⟩).1,((below_row ((Below.refl (World.drew w).heap.size (World.drew w)).alloc (Nat.le_refl _) (.cells (itC it0) 51)) (by simp) (Nat.le_refl _) (itC ⟨3,f,f,0,0,0,50,false⟩)).cell (Nat.lt_of_lt_of_le hS.2.2 hS.1.be.size)).trans hS.2.1,hS.2.2⟩
 refine hK _ _ hS3 (cast_h (fr10 v0 v1 v2 v3 v4 (.slice (some ⟨g,o,none⟩) n cap) v6 v7 v8 v9 (.int .i64 ((k : Nat))) xa (.pointer (some ⟨(World.drew w).heap.size,0,none⟩)) xc xd xe xf xg xh xi xj xk xl xm xn xo xp xq xr xt xu xv xw xx xy xz xA xB xC xD xE xF xG xH xI xJ xK xL xM xN xO xP xQ xR xS xT xU xV xW xX xY xZ ya yb yc yd ye yf yg yh yi yj yk yl ym yn yo yp yq yr yt yu yv (.slice (some ⟨g,o,none⟩) n cap) (.int .i64 ((k : Nat))) (.pointer (some ⟨g,o + k * 6,none⟩)) (.pointer (some ⟨g,o + k * 6,none⟩)) (.int .i64 f) (.slice (some ⟨g,o,none⟩) n cap) (.int .i64 ((k : Nat))) (.pointer (some ⟨g,o + k * 6,none⟩)) (.pointer (some ⟨g,o + k * 6,none⟩)) (.int .i64 f) (.agg (itC ⟨3,f,f,0,0,0,50,false⟩)) yH yI yJ yK yL yM yN yO yP yQ yR yS yT yU yV yW yX yY yZ za zb zc zd ze zf zg zh zi zj zk zl zm zn zo zp zq zr zs zt zu zv zw zx zy zz) (by kernel_rfl) ?_)
 clear hK K
 refine wpAnyH_done (by kernel_rfl) (hq.out _ _ (is_new hS.1 it0 ⟨3,f,f,0,0,0,50,false⟩).1 (is_new hS.1 it0 ⟨3,f,f,0,0,0,50,false⟩).2 hS.1.be.size (fun b hb e => ?_) _ _ _ _ _ _ _ _ _ _ _) _
 have := (hS.1.ow.lt b hb).2
 omega
end Go.Proofs.YthcphnifnfnceaaGreatDoor
