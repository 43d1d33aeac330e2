/-
  What is proved here: the drawn regions of Place, of the drop capital and of the line's record.
  What is proved here: what glyphs of set answers.
-/
import Derived.Test.YtbdpghjegachaaaGreatDoorE2
import Derived.Test.YtbdpghjegachaaaGreatDoorE25
import Derived.Test.YtbdpghjegachaaaGreatDoorE26
namespace Go.Proofs.YtbdpghjegachaaaGreatDoor
open Go.RowKit Go.Shelf
set_option maxRecDepth 100000
set_option maxHeartbeats 1000000

structure CS (a : Pa) (l : Ln) (m : Ms) (Pb Lb g : Nat) (W : World) : Prop where
 p : PB W Pb a
 l : LB W Lb l
 m : RF W g 0 1 (fun _ => m)
theorem CS.below {a : Pa} {l : Ln} {m : Ms} {Pb Lb g : Nat} {W W' : World} (h : CS a l m Pb Lb g W) (hb : Below W.heap.size W W') : CS a l m Pb Lb g W' :=
 ⟨h.p.below hb h.p.lt,⟨(hb.block _ h.l.lt).trans h.l.row⟩,h.m.below hb (fun h' => h.m.lt h')⟩
theorem load_ms {ac : Act} {w : World} {g : Nat} {m : Ms} {oi : Oper} {x : Operand} (h : RF w g 0 1 (fun _ => m)) (ho : oi.op = .load 53 x) (hx : ac.eval x = .pointer (some ⟨g,0,none⟩)) : (execOp ac.eval oi).run Tryz.prog w = .ok (.value (.agg #[.int .i64 m.f,.int .i64 m.t,.int .i64 m.k,.int .i64 m.s,.int .i64 m.w,.int .i64 m.q])) w := by
 have hc := h.c (i := 0) (by omega)
 simp only [Nat.zero_mul,Nat.zero_add] at hc
 obtain ⟨c0,c1,c2,c3,c4,c5⟩ := hc
 unfold execOp
 simp only [ho,hx]
 go_simp
def ops8_10_0 (ps : String) : Oper := ⟨some 75,.move (.tmp 14),31,ps,#[],none⟩
def ops8_10_1 (ps : String) : Oper := ⟨some 76,.load 27 (.tmp 3),27,ps,#[],none⟩
def ops8_10_2 (ps : String) : Oper := ⟨some 77,.move (.tmp 8),48,ps,#[],none⟩
def ops8_10_3 (ps : String) : Oper := ⟨some 78,.indexAddr 48 (.tmp 77) (.const (.int .i64 0)),0,ps,#[⟨2,.data⟩],none⟩
def ops8_10_4 (ps : String) : Oper := ⟨some 79,.load 53 (.tmp 78),53,ps,#[⟨3,.data⟩],none⟩
def ops8_10_5 (ps : String) : Oper := ⟨some 80,.fieldAddr 29 (.tmp 4) 2,0,ps,#[],none⟩
def ops8_10_6 (ps : String) : Oper := ⟨some 81,.load 3 (.tmp 80),3,ps,#[⟨5,.data⟩],none⟩
def ops8_10_7 (ps : String) : Oper := ⟨some 82,.call ⟨.value (.func 25),#[.tmp 76,.tmp 79,.tmp 81],#[27,53,3]⟩,41,ps,#[⟨1,.data⟩,⟨4,.data⟩,⟨6,.data⟩],none⟩
def ops8_10_8 (ps : String) : Oper := ⟨some 83,.buildSlice 31 1 #[(0,.tmp 82)],31,ps,#[⟨7,.data⟩],none⟩
def ops8_10_9 (ps : String) : Oper := ⟨some 84,.call ⟨.builtin .append,#[.tmp 75,.tmp 83],#[31,31]⟩,31,ps,#[⟨0,.data⟩,⟨8,.data⟩,⟨7,.chain⟩],none⟩
def ops8_10_10 (ps : String) : Oper := ⟨some 14,.assign (.tmp 84),31,ps,#[⟨9,.data⟩,⟨9,.chain⟩,⟨0,.phase⟩,⟨1,.phase⟩,⟨2,.phase⟩,⟨3,.phase⟩,⟨4,.phase⟩,⟨5,.phase⟩,⟨6,.phase⟩,⟨7,.phase⟩,⟨8,.phase⟩,⟨9,.phase⟩],none⟩
def ops8_10 (ps : String) : Array Oper := #[ops8_10_0 ps,ops8_10_1 ps,ops8_10_2 ps,ops8_10_3 ps,ops8_10_4 ps,ops8_10_5 ps,ops8_10_6 ps,ops8_10_7 ps,ops8_10_8 ps,ops8_10_9 ps,ops8_10_10 ps]

theorem pl_r10 (Q : Exit → Act → World → Prop) (hQ : ∀ c x (n : Nat) v w,Q (.panic c) (x.put (some n) v) w → Q (.panic c) x w) (id : Nat) (ps : String) {v0 v1 v2 v5 v6 v7 v9 xa xb xc xd xf xg xh xi xj xk xl xm xn xo xp xq xr xt xu xv xw xx xy xz xA xB xC xD xE xF xG xH xI xJ xK xL xM xN xO xP xQ xR xS xT xU xV xW xX xY xZ ya yb yc yd ye yf yg yh yi yj yk yl ym yn yo yp yq yr yt yu yv yw yx yy yz yA yB yC yD yE yF yG yH yI yJ yK yL yM yN yO yP yQ yR yS yT yU yV yW yX yY yZ za zb zc zd ze zf zg zh zi zj zk zl zm zn zo zp zq zr zs zt zu zv zw zx zy zz zA : Value} (a : Pa) (l : Ln) (m : Ms) (Pb Lb g n cap : Nat) (w : World) (hS : CS a l m Pb Lb g (World.drew w))
  (_hn0 : (0 : Int) < (n : Nat)) (hn1 : ¬ n = 0) (hc : Hid (∀ W,CS a l m Pb Lb g W → Calls Tryz.prog 25 #[.agg (paC a),.agg #[.int .i64 m.f,.int .i64 m.t,.int .i64 m.k,.int .i64 m.s,.int .i64 m.w,.int .i64 m.q],.int .i64 l.x] W fun e w' => e = .returned (.agg (glL (cpG a m l.x)).toArray) ∧ Below W.heap.size W w'))
  (hq : ∀ vv v' w1 w2,Below w.heap.size w w1 → Below w1.heap.size w1 w2 → w2.ownsRow w1.heap.size 41 4 v' [(cpG a m l.x)].length ([(cpG a m l.x)].flatMap glL) → Q .normal (fr8 v0 v1 v2 (.pointer (some ⟨Pb,0,none⟩)) (.pointer (some ⟨Lb,0,none⟩)) v5 v6 v7 (.slice (some ⟨g,0,none⟩) n cap) v9 xa xb xc xd v' xf xg xh xi xj xk xl xm xn xo xp xq xr xt xu xv xw xx xy xz xA xB xC xD xE xF xG xH xI xJ xK xL xM xN xO xP xQ xR xS xT xU xV xW xX xY xZ ya yb yc yd ye yf yg yh yi yj yk yl ym yn (.slice none 0 0) (.agg (paC a)) (.slice (some ⟨g,0,none⟩) n cap) (.pointer (some ⟨g,0,none⟩)) (.agg #[.int .i64 m.f,.int .i64 m.t,.int .i64 m.k,.int .i64 m.s,.int .i64 m.w,.int .i64 m.q]) (.pointer (some ⟨Lb,2,none⟩)) (.int .i64 l.x) (.agg (glL (cpG a m l.x)).toArray) vv v' yz yA yB yC yD yE yF yG yH yI yJ yK yL yM yN yO yP yQ yR yS yT yU yV yW yX yY yZ za zb zc zd ze zf zg zh zi zj zk zl zm zn zo zp zq zr zs zt zu zv zw zx zy zz zA) w2) :
  (Code.region id (ops8_10 ps) true).wp Tryz.prog Q (fr8 v0 v1 v2 (.pointer (some ⟨Pb,0,none⟩)) (.pointer (some ⟨Lb,0,none⟩)) v5 v6 v7 (.slice (some ⟨g,0,none⟩) n cap) v9 xa xb xc xd (.slice none 0 0) xf xg xh xi xj xk xl xm xn xo xp xq xr xt xu xv xw xx xy xz xA xB xC xD xE xF xG xH xI xJ xK xL xM xN xO xP xQ xR xS xT xU xV xW xX xY xZ ya yb yc yd ye yf yg yh yi yj yk yl ym yn yo yp yq yr yt yu yv yw yx yy yz yA yB yC yD yE yF yG yH yI yJ yK yL yM yN yO yP yQ yR yS yT yU yV yW yX yY yZ za zb zc zd ze zf zg zh zi zj zk zl zm zn zo zp zq zr zs zt zu zv zw zx zy zz zA) w := by
 refine wp_region_held (S := CS a l m Pb Lb g) (by kernel_rfl) ?_
 change wpAnyH _ _ _ _ _ 11 _ _ (World.drew w)
 refine take_r 0 ⟨some 75,.move (.tmp 14),31,ps,#[],none⟩ (.slice none 0 0) hQ (fun w _ => by kernel_rfl) hS ?_
 refine take_r 1 ⟨some 76,.load 27 (.tmp 3),27,ps,#[],none⟩ (.agg (paC a)) hQ (fun w hS => load_pa (x := .tmp 3) hS.p (by kernel_rfl) (by kernel_rfl)) hS ?_
 refine take_r 2 ⟨some 77,.move (.tmp 8),48,ps,#[],none⟩ (.slice (some ⟨g,0,none⟩) n cap) hQ (fun w _ => by kernel_rfl) hS ?_
 refine take_r 3 ⟨some 78,.indexAddr 48 (.tmp 77) (.const (.int .i64 0)),0,ps,#[⟨2,.data⟩],none⟩ (.pointer (some ⟨g,0,none⟩)) hQ (fun w hS => by unfold fr8; go_simp) hS ?_
 refine take_r 4 ⟨some 79,.load 53 (.tmp 78),53,ps,#[⟨3,.data⟩],none⟩ (.agg #[.int .i64 m.f,.int .i64 m.t,.int .i64 m.k,.int .i64 m.s,.int .i64 m.w,.int .i64 m.q]) hQ (fun w hS => load_ms (x := .tmp 78) hS.m (by kernel_rfl) (by kernel_rfl)) hS ?_
 refine take_k 5 (ops8_10_5 ps) (.pointer (some ⟨Lb,2,none⟩)) (fr8 v0 v1 v2 (.pointer (some ⟨Pb,0,none⟩)) (.pointer (some ⟨Lb,0,none⟩)) v5 v6 v7 (.slice (some ⟨g,0,none⟩) n cap) v9 xa xb xc xd (.slice none 0 0) xf xg xh xi xj xk xl xm xn xo xp xq xr xt xu xv xw xx xy xz xA xB xC xD xE xF xG xH xI xJ xK xL xM xN xO xP xQ xR xS xT xU xV xW xX xY xZ ya yb yc yd ye yf yg yh yi yj yk yl ym yn (.slice none 0 0) (.agg (paC a)) (.slice (some ⟨g,0,none⟩) n cap) (.pointer (some ⟨g,0,none⟩)) (.agg #[.int .i64 m.f,.int .i64 m.t,.int .i64 m.k,.int .i64 m.s,.int .i64 m.w,.int .i64 m.q]) (.pointer (some ⟨Lb,2,none⟩)) yv yw yx yy yz yA yB yC yD yE yF yG yH yI yJ yK yL yM yN yO yP yQ yR yS yT yU yV yW yX yY yZ za zb zc zd ze zf zg zh zi zj zk zl zm zn zo zp zq zr zs zt zu zv zw zx zy zz zA) hQ (fun w hS => by unfold fr8 ops8_10_5; go_simp) hS ?_
 refine take_r 6 ⟨some 81,.load 3 (.tmp 80),3,ps,#[⟨5,.data⟩],none⟩ (.int .i64 l.x) hQ (fun w hS => by have e := hS.l.c2; unfold fr8; go_simp) hS ?_
 refine want_k 7 (ops8_10_7 ps) fun K hK => ?_
 unfold fr8 ops8_10_7
 go_simp
 refine (hc.out _ hS).mono ?_
 rintro e w1 ⟨rfl,hb1⟩
 have hS1 : CS a l m Pb Lb g w1 := hS.below hb1
 refine hK _ _ hS1 (cast_h (fr8 v0 v1 v2 (.pointer (some ⟨Pb,0,none⟩)) (.pointer (some ⟨Lb,0,none⟩)) v5 v6 v7 (.slice (some ⟨g,0,none⟩) n cap) v9 xa xb xc xd (.slice none 0 0) xf xg xh xi xj xk xl xm xn xo xp xq xr xt xu xv xw xx xy xz xA xB xC xD xE xF xG xH xI xJ xK xL xM xN xO xP xQ xR xS xT xU xV xW xX xY xZ ya yb yc yd ye yf yg yh yi yj yk yl ym yn (.slice none 0 0) (.agg (paC a)) (.slice (some ⟨g,0,none⟩) n cap) (.pointer (some ⟨g,0,none⟩)) (.agg #[.int .i64 m.f,.int .i64 m.t,.int .i64 m.k,.int .i64 m.s,.int .i64 m.w,.int .i64 m.q]) (.pointer (some ⟨Lb,2,none⟩)) (.int .i64 l.x) (.agg (glL (cpG a m l.x)).toArray) yx yy yz yA yB yC yD yE yF yG yH yI yJ yK yL yM yN yO yP yQ yR yS yT yU yV yW yX yY yZ za zb zc zd ze zf zg zh zi zj zk zl zm zn zo zp zq zr zs zt zu zv zw zx zy zz zA) (by kernel_rfl) ?_)
 clear hK K
 refine want_k 8 (ops8_10_8 ps) fun K hK => ?_
 refine wp_build31 _ (by unfold ops8_10_8; rfl) (cpG a m l.x) (by unfold fr8; rfl) ?_
 have hS2 : CS a l m Pb Lb g (w1.alloc (.cells (glL (cpG a m l.x)).toArray 41)) := hS1.below ((Below.refl _ _).alloc (Nat.le_refl _) _)
 refine hK _ _ hS2 (cast_h (fr8 v0 v1 v2 (.pointer (some ⟨Pb,0,none⟩)) (.pointer (some ⟨Lb,0,none⟩)) v5 v6 v7 (.slice (some ⟨g,0,none⟩) n cap) v9 xa xb xc xd (.slice none 0 0) xf xg xh xi xj xk xl xm xn xo xp xq xr xt xu xv xw xx xy xz xA xB xC xD xE xF xG xH xI xJ xK xL xM xN xO xP xQ xR xS xT xU xV xW xX xY xZ ya yb yc yd ye yf yg yh yi yj yk yl ym yn (.slice none 0 0) (.agg (paC a)) (.slice (some ⟨g,0,none⟩) n cap) (.pointer (some ⟨g,0,none⟩)) (.agg #[.int .i64 m.f,.int .i64 m.t,.int .i64 m.k,.int .i64 m.s,.int .i64 m.w,.int .i64 m.q]) (.pointer (some ⟨Lb,2,none⟩)) (.int .i64 l.x) (.agg (glL (cpG a m l.x)).toArray) (.slice (some ⟨w1.heap.size,0,none⟩) 1 1) yy yz yA yB yC yD yE yF yG yH yI yJ yK yL yM yN yO yP yQ yR yS yT yU yV yW yX yY yZ za zb zc zd ze zf zg zh zi zj zk zl zm zn zo zp zq zr zs zt zu zv zw zx zy zz zA) (by kernel_rfl) ?_)
 clear hK K
 refine want_k 9 (ops8_10_9 ps) fun K hK => ?_
 refine wp_app2 (k := 4) (f := glL) (w0 := w1) (bytes := 32) el31 glL_len glL_one (by omega) (by omega) _ _ (by unfold ops8_10_9; rfl) w1.heap.size (.slice none 0 0) ([] : List Gl) (cpG a m l.x) (by unfold fr8; rfl) (World.ownsRow_nil _ _ _ _) (Nat.le_refl _) (by simp) (by unfold fr8; rfl) rfl ?_
 intro v' w2 hr6 hT6 hw6
 have hb2 : Below w1.heap.size w1 w2 := hT6.below (Nat.le_refl _) (fun k hk => by cases hk)
 have hS3 : CS a l m Pb Lb g w2 := hS1.below hb2
 refine hK _ _ hS3 (cast_h (fr8 v0 v1 v2 (.pointer (some ⟨Pb,0,none⟩)) (.pointer (some ⟨Lb,0,none⟩)) v5 v6 v7 (.slice (some ⟨g,0,none⟩) n cap) v9 xa xb xc xd (.slice none 0 0) xf xg xh xi xj xk xl xm xn xo xp xq xr xt xu xv xw xx xy xz xA xB xC xD xE xF xG xH xI xJ xK xL xM xN xO xP xQ xR xS xT xU xV xW xX xY xZ ya yb yc yd ye yf yg yh yi yj yk yl ym yn (.slice none 0 0) (.agg (paC a)) (.slice (some ⟨g,0,none⟩) n cap) (.pointer (some ⟨g,0,none⟩)) (.agg #[.int .i64 m.f,.int .i64 m.t,.int .i64 m.k,.int .i64 m.s,.int .i64 m.w,.int .i64 m.q]) (.pointer (some ⟨Lb,2,none⟩)) (.int .i64 l.x) (.agg (glL (cpG a m l.x)).toArray) (.slice (some ⟨w1.heap.size,0,none⟩) 1 1) v' yz yA yB yC yD yE yF yG yH yI yJ yK yL yM yN yO yP yQ yR yS yT yU yV yW yX yY yZ za zb zc zd ze zf zg zh zi zj zk zl zm zn zo zp zq zr zs zt zu zv zw zx zy zz zA) (by kernel_rfl) ?_)
 clear hK K
 refine take_r 10 ⟨some 14,.assign (.tmp 84),31,ps,#[⟨9,.data⟩,⟨9,.chain⟩,⟨0,.phase⟩,⟨1,.phase⟩,⟨2,.phase⟩,⟨3,.phase⟩,⟨4,.phase⟩,⟨5,.phase⟩,⟨6,.phase⟩,⟨7,.phase⟩,⟨8,.phase⟩,⟨9,.phase⟩],none⟩ (v') hQ (fun w _ => by kernel_rfl) hS3 ?_
 exact wpAnyH_done (by kernel_rfl) (hq _ v' w1 w2 ((below_drew w).trans hb1) hb2 hr6) _
def ops8_12_0 (ps : String) : Oper := ⟨some 85,.move (.tmp 8),48,ps,#[],none⟩
def ops8_12_1 (ps : String) : Oper := ⟨some 86,.move (.tmp 10),3,ps,#[],none⟩
def ops8_12_2 (ps : String) : Oper := ⟨some 87,.move (.tmp 12),3,ps,#[],none⟩
def ops8_12_3 (ps : String) : Oper := ⟨some 88,.slice 48 (.tmp 85) (some (.tmp 86)) (some (.tmp 87)) none,48,ps,#[⟨0,.data⟩,⟨1,.data⟩,⟨2,.data⟩],none⟩
def ops8_12_4 (ps : String) : Oper := ⟨some 89,.fieldAddr 29 (.tmp 4) 2,0,ps,#[],none⟩
def ops8_12_5 (ps : String) : Oper := ⟨some 90,.load 3 (.tmp 89),3,ps,#[⟨4,.data⟩],none⟩
def ops8_12_6 (ps : String) : Oper := ⟨some 91,.move (.tmp 2),4,ps,#[],none⟩
def ops8_12_7 (ps : String) : Oper := ⟨some 92,.build 60 #[(0,.tmp 88),(2,.tmp 90),(5,.tmp 91)],60,ps,#[⟨3,.data⟩,⟨5,.data⟩,⟨6,.data⟩],none⟩
def ops8_12_8 (ps : String) : Oper := ⟨some 15,.alloc 60,0,ps,#[],none⟩
def ops8_12_9 (ps : String) : Oper := ⟨none,.store 60 (.tmp 15) (.tmp 92),0,ps,#[⟨8,.data⟩,⟨7,.data⟩,⟨0,.phase⟩,⟨1,.phase⟩,⟨2,.phase⟩,⟨3,.phase⟩,⟨4,.phase⟩,⟨5,.phase⟩,⟨6,.phase⟩,⟨7,.phase⟩,⟨8,.phase⟩],none⟩
def ops8_12 (ps : String) : Array Oper := #[ops8_12_0 ps,ops8_12_1 ps,ops8_12_2 ps,ops8_12_3 ps,ops8_12_4 ps,ops8_12_5 ps,ops8_12_6 ps,ops8_12_7 ps,ops8_12_8 ps,ops8_12_9 ps]

theorem pl_r12 (Q : Exit → Act → World → Prop) (hQ : ∀ c x (n : Nat) v w,Q (.panic c) (x.put (some n) v) w → Q (.panic c) x w) (id : Nat) (ps : String) {v0 v1 v3 v5 v6 v7 v9 xb xd xe xf xg xh xi xj xk xl xm xn xo xp xq xr xt xu xv xw xx xy xz xA xB xC xD xE xF xG xH xI xJ xK xL xM xN xO xP xQ xR xS xT xU xV xW xX xY xZ ya yb yc yd ye yf yg yh yi yj yk yl ym yn yo yp yq yr yt yu yv yw yx yy yz yA yB yC yD yE yF yG yH yI yJ yK yL yM yN yO yP yQ yR yS yT yU yV yW yX yY yZ za zb zc zd ze zf zg zh zi zj zk zl zm zn zo zp zq zr zs zt zu zv zw zx zy zz zA : Value} (l : Ln) (last : Bool) (Lb n cap f0 t0 : Nat) (av a6 : Option Addr) (w : World) (hS : (fun W => LB W Lb l) (World.drew w))
  (h6 : Hid (∀ W,(Instr.slice 48 (.slice av n cap) (some (.int .i64 (f0 : Int))) (some (.int .i64 (t0 : Int))) none).run Tryz.prog W = .ok (.slice a6 (t0 - f0) (cap - f0)) W))
  (hq : ∀ w',Below w.heap.size w w' → w'.heap[w.heap.size]? = some (.cells (rwC (.slice a6 (t0 - f0) (cap - f0)) (.slice none 0 0) l.x 0 0 last) 60) → Q .normal (fr8 v0 v1 (.bool last) v3 (.pointer (some ⟨Lb,0,none⟩)) v5 v6 v7 (.slice av n cap) v9 (.int .i64 (f0 : Nat)) xb (.int .i64 (t0 : Nat)) xd xe (.pointer (some ⟨w.heap.size,0,none⟩)) xg xh xi xj xk xl xm xn xo xp xq xr xt xu xv xw xx xy xz xA xB xC xD xE xF xG xH xI xJ xK xL xM xN xO xP xQ xR xS xT xU xV xW xX xY xZ ya yb yc yd ye yf yg yh yi yj yk yl ym yn yo yp yq yr yt yu yv yw yx yy (.slice av n cap) (.int .i64 (f0 : Nat)) (.int .i64 (t0 : Nat)) (.slice a6 (t0 - f0) (cap - f0)) (.pointer (some ⟨Lb,2,none⟩)) (.int .i64 l.x) (.bool last) (.agg (rwC (.slice a6 (t0 - f0) (cap - f0)) (.slice none 0 0) l.x 0 0 last)) yH yI yJ yK yL yM yN yO yP yQ yR yS yT yU yV yW yX yY yZ za zb zc zd ze zf zg zh zi zj zk zl zm zn zo zp zq zr zs zt zu zv zw zx zy zz zA) w') :
  (Code.region id (ops8_12 ps) true).wp Tryz.prog Q (fr8 v0 v1 (.bool last) v3 (.pointer (some ⟨Lb,0,none⟩)) v5 v6 v7 (.slice av n cap) v9 (.int .i64 (f0 : Nat)) xb (.int .i64 (t0 : Nat)) xd xe xf xg xh xi xj xk xl xm xn xo xp xq xr xt xu xv xw xx xy xz xA xB xC xD xE xF xG xH xI xJ xK xL xM xN xO xP xQ xR xS xT xU xV xW xX xY xZ ya yb yc yd ye yf yg yh yi yj yk yl ym yn yo yp yq yr yt yu yv yw yx yy yz yA yB yC yD yE yF yG yH yI yJ yK yL yM yN yO yP yQ yR yS yT yU yV yW yX yY yZ za zb zc zd ze zf zg zh zi zj zk zl zm zn zo zp zq zr zs zt zu zv zw zx zy zz zA) w := by
 refine wp_region_held (S := (fun W => LB W Lb l)) (by kernel_rfl) ?_
 change wpAnyH _ _ _ _ _ 10 _ _ (World.drew w)
 refine take_r 0 ⟨some 85,.move (.tmp 8),48,ps,#[],none⟩ (.slice av n cap) hQ (fun w _ => by kernel_rfl) hS ?_
 refine take_r 1 ⟨some 86,.move (.tmp 10),3,ps,#[],none⟩ (.int .i64 (f0 : Nat)) hQ (fun w _ => by kernel_rfl) hS ?_
 refine take_r 2 ⟨some 87,.move (.tmp 12),3,ps,#[],none⟩ (.int .i64 (t0 : Nat)) hQ (fun w _ => by kernel_rfl) hS ?_
 refine take_r 3 ⟨some 88,.slice 48 (.tmp 85) (some (.tmp 86)) (some (.tmp 87)) none,48,ps,#[⟨0,.data⟩,⟨1,.data⟩,⟨2,.data⟩],none⟩ (.slice a6 (t0 - f0) (cap - f0)) hQ (fun w hS => by have e := h6.out w; unfold fr8; go_simp) hS ?_
 refine take_r 4 ⟨some 89,.fieldAddr 29 (.tmp 4) 2,0,ps,#[],none⟩ (.pointer (some ⟨Lb,2,none⟩)) hQ (fun w hS => by unfold fr8; go_simp) hS ?_
 refine take_k 5 (ops8_12_5 ps) (.int .i64 l.x) (fr8 v0 v1 (.bool last) v3 (.pointer (some ⟨Lb,0,none⟩)) v5 v6 v7 (.slice av n cap) v9 (.int .i64 (f0 : Nat)) xb (.int .i64 (t0 : Nat)) xd xe xf xg xh xi xj xk xl xm xn xo xp xq xr xt xu xv xw xx xy xz xA xB xC xD xE xF xG xH xI xJ xK xL xM xN xO xP xQ xR xS xT xU xV xW xX xY xZ ya yb yc yd ye yf yg yh yi yj yk yl ym yn yo yp yq yr yt yu yv yw yx yy (.slice av n cap) (.int .i64 (f0 : Nat)) (.int .i64 (t0 : Nat)) (.slice a6 (t0 - f0) (cap - f0)) (.pointer (some ⟨Lb,2,none⟩)) (.int .i64 l.x) yF yG yH yI yJ yK yL yM yN yO yP yQ yR yS yT yU yV yW yX yY yZ za zb zc zd ze zf zg zh zi zj zk zl zm zn zo zp zq zr zs zt zu zv zw zx zy zz zA) hQ (fun w hS => by have e := hS.c2; unfold fr8 ops8_12_5; go_simp) hS ?_
 refine take_r 6 ⟨some 91,.move (.tmp 2),4,ps,#[],none⟩ (.bool last) hQ (fun w _ => by kernel_rfl) hS ?_
 refine take_r 7 ⟨some 92,.build 60 #[(0,.tmp 88),(2,.tmp 90),(5,.tmp 91)],60,ps,#[⟨3,.data⟩,⟨5,.data⟩,⟨6,.data⟩],none⟩ (.agg (rwC (.slice a6 (t0 - f0) (cap - f0)) (.slice none 0 0) l.x 0 0 last)) hQ (fun w hS => by unfold fr8 rwC; go_simp; try rfl) hS ?_
 refine want_k 8 (ops8_12_8 ps) fun K hK => ?_
 unfold fr8 ops8_12_8
 go_simp
 have hb1 : Below w.heap.size w (World.drew (w.alloc (.cells (rwC (.slice none 0 0) (.slice none 0 0) 0 0 0 false) 60))) := ((Below.refl w.heap.size w).alloc (Nat.le_refl _) _).drew
 have hT : (World.drew (w.alloc (.cells (rwC (.slice none 0 0) (.slice none 0 0) 0 0 0 false) 60))).heap[w.heap.size]? = some (.cells (rwC (.slice none 0 0) (.slice none 0 0) 0 0 0 false) 60) := World.alloc_heap_new w _
 have hS1 : (fun W => LB W Lb l) (World.drew (w.alloc (.cells (rwC (.slice none 0 0) (.slice none 0 0) 0 0 0 false) 60))) := ⟨(hb1.block _ hS.lt).trans hS.row⟩
 have hsz1 : w.heap.size < (World.drew (w.alloc (.cells (rwC (.slice none 0 0) (.slice none 0 0) 0 0 0 false) 60))).heap.size := by show _ < (w.alloc (.cells (rwC (.slice none 0 0) (.slice none 0 0) 0 0 0 false) 60)).heap.size; simp
 change K _ (World.drew (w.alloc (.cells (rwC (.slice none 0 0) (.slice none 0 0) 0 0 0 false) 60)))
 generalize World.drew (w.alloc (.cells (rwC (.slice none 0 0) (.slice none 0 0) 0 0 0 false) 60)) = wa at *
 refine hK _ _ hS1 (cast_h (fr8 v0 v1 (.bool last) v3 (.pointer (some ⟨Lb,0,none⟩)) v5 v6 v7 (.slice av n cap) v9 (.int .i64 (f0 : Nat)) xb (.int .i64 (t0 : Nat)) xd xe (.pointer (some ⟨w.heap.size,0,none⟩)) xg xh xi xj xk xl xm xn xo xp xq xr xt xu xv xw xx xy xz xA xB xC xD xE xF xG xH xI xJ xK xL xM xN xO xP xQ xR xS xT xU xV xW xX xY xZ ya yb yc yd ye yf yg yh yi yj yk yl ym yn yo yp yq yr yt yu yv yw yx yy (.slice av n cap) (.int .i64 (f0 : Nat)) (.int .i64 (t0 : Nat)) (.slice a6 (t0 - f0) (cap - f0)) (.pointer (some ⟨Lb,2,none⟩)) (.int .i64 l.x) (.bool last) (.agg (rwC (.slice a6 (t0 - f0) (cap - f0)) (.slice none 0 0) l.x 0 0 last)) yH yI yJ yK yL yM yN yO yP yQ yR yS yT yU yV yW yX yY yZ za zb zc zd ze zf zg zh zi zj zk zl zm zn zo zp zq zr zs zt zu zv zw zx zy zz zA) (by kernel_rfl) ?_)
 clear hK K
 refine want_k 9 (ops8_12_9 ps) fun K hK => ?_
 refine wp_store_row 60 _ _ (by unfold ops8_12_9; rfl) w.heap.size (rwC (.slice a6 (t0 - f0) (cap - f0)) (.slice none 0 0) l.x 0 0 last) rfl rfl 60 _ hT (by show _ = some 6; kernel_rfl) rfl (by simp [rwC,Value.oneCell']) ?_
 have hb2 : Below w.heap.size w (wa.setRow w.heap.size (rwC (.slice a6 (t0 - f0) (cap - f0)) (.slice none 0 0) l.x 0 0 last)) := hb1.trans ((Turns.setRow (X := fun k => k = w.heap.size) _ rfl _).below hb1.size (fun k hk => by omega))
 have hT2 : (wa.setRow w.heap.size (rwC (.slice a6 (t0 - f0) (cap - f0)) (.slice none 0 0) l.x 0 0 last)).heap[w.heap.size]? = some (.cells (rwC (.slice a6 (t0 - f0) (cap - f0)) (.slice none 0 0) l.x 0 0 last) 60) := setRow_heap _ _ _ _ _ _ hT
 have hS2 : (fun W => LB W Lb l) (wa.setRow w.heap.size (rwC (.slice a6 (t0 - f0) (cap - f0)) (.slice none 0 0) l.x 0 0 last)) := ⟨(hb2.block _ hS.lt).trans hS.row⟩
 refine hK _ _ hS2 (cast_h (fr8 v0 v1 (.bool last) v3 (.pointer (some ⟨Lb,0,none⟩)) v5 v6 v7 (.slice av n cap) v9 (.int .i64 (f0 : Nat)) xb (.int .i64 (t0 : Nat)) xd xe (.pointer (some ⟨w.heap.size,0,none⟩)) xg xh xi xj xk xl xm xn xo xp xq xr xt xu xv xw xx xy xz xA xB xC xD xE xF xG xH xI xJ xK xL xM xN xO xP xQ xR xS xT xU xV xW xX xY xZ ya yb yc yd ye yf yg yh yi yj yk yl ym yn yo yp yq yr yt yu yv yw yx yy (.slice av n cap) (.int .i64 (f0 : Nat)) (.int .i64 (t0 : Nat)) (.slice a6 (t0 - f0) (cap - f0)) (.pointer (some ⟨Lb,2,none⟩)) (.int .i64 l.x) (.bool last) (.agg (rwC (.slice a6 (t0 - f0) (cap - f0)) (.slice none 0 0) l.x 0 0 last)) yH yI yJ yK yL yM yN yO yP yQ yR yS yT yU yV yW yX yY yZ za zb zc zd ze zf zg zh zi zj zk zl zm zn zo zp zq zr zs zt zu zv zw zx zy zz zA) (by kernel_rfl) ?_)
 clear hK K
 exact wpAnyH_done (by kernel_rfl) (hq _ hb2 hT2) _
end Go.Proofs.YtbdpghjegachaaaGreatDoor

namespace Go.Proofs.YtbdpghjegachaaaGreatDoor
open Go.RowKit Go.Shelf
set_option maxRecDepth 100000
set_option maxHeartbeats 4000000

def psN (M : Nat → Ms) (x : Int) : Nat → Int
 | 0 => x
 | k + 1 => psN M x k + (M k).q + (M k).w
def glS (M : Nat → Ms) (x : Int) : Nat → List Gl
 | 0 => []
 | k + 1 => glS M x k ++ [⟨(M k).f,(M k).t,psN M x k + (M k).q,(M k).w⟩]
theorem glS_len (M : Nat → Ms) (x : Int) : ∀ k,(glS M x k).length = k
 | 0 => rfl
 | k + 1 => by unfold glS; rw [List.length_append,glS_len M x k]; rfl
theorem psN_rng {M : Nat → Ms} {N : Nat} {x : Int} (hx : -1000000000 ≤ x ∧ x ≤ 1000000000) (hM : ∀ i,i < N → (-64 ≤ (M i).q ∧ (M i).q ≤ 0) ∧ -200000000 ≤ (M i).w ∧ (M i).w ≤ 200000000) : ∀ k,k ≤ N → -1000000000 - 201000000 * (k : Int) ≤ psN M x k ∧ psN M x k ≤ 1000000000 + 201000000 * (k : Int)
 | 0,_ => by show _ ≤ x ∧ x ≤ _; omega
 | k + 1,h => by
  have ih := psN_rng hx hM k (by omega)
  have := hM k (by omega)
  show _ ≤ psN M x k + (M k).q + (M k).w ∧ psN M x k + (M k).q + (M k).w ≤ _
  omega
structure GyS (w : World) (v0 : Value) (c base : Nat) (W : World) (y : Int) (v : Value) (L : List Gl) : Prop where
 t : Turns (fun k => v0.ownBlock = some k) w W
 b : Boxed W c 3 (.int .i64 y)
 row : W.ownsRow base 41 4 v L.length (L.flatMap glL)
 own : v.ownBlock = v0.ownBlock ∨ ∀ g,v.ownBlock = some g → c < g
theorem GyS.below {w : World} {v0 : Value} {c base : Nat} {W W' : World} {y : Int} {v : Value} {L : List Gl} (h : GyS w v0 c base W y v L) (hb : Below W.heap.size W W') : GyS w v0 c base W' y v L :=
 ⟨h.t.trans ((Turns.of_below hb).mono fun _ k => k.elim),(hb.block c (Boxed.lt h.b)).trans h.b,ownsRow_below h.row hb,h.own⟩
theorem GyS.drew {w : World} {v0 : Value} {c base : Nat} {W : World} {y : Int} {v : Value} {L : List Gl} (h : GyS w v0 c base W y v L) : GyS w v0 c base W.drew y v L := h.below ⟨rfl,rfl,rfl,Nat.le_refl _,fun _ _ => rfl⟩
theorem GyS.not {w : World} {v0 : Value} {c base : Nat} {W : World} {y : Int} {v : Value} {L : List Gl} (h : GyS w v0 c base W y v L) (hc : w.heap.size = c) (h0 : ∀ k,v0.ownBlock = some k → k < w.heap.size) : ¬ v.ownBlock = some c := fun e => by
 rcases h.own with h1 | h1
 ·rw [h1] at e; have := h0 c e; omega
 ·have := h1 c e; omega
theorem GyS.step {w : World} {v0 : Value} {c base : Nat} {W : World} {y : Int} {v : Value} {L : List Gl} (h : GyS w v0 c base W y v L) (hc : w.heap.size = c) (h0 : ∀ k,v0.ownBlock = some k → k < w.heap.size) {k d : Int} (hy : -1000000000000 ≤ y ∧ y ≤ 1000000000000) (hk : -1000000000000 ≤ k ∧ k ≤ 1000000000000) (hd : -1000000000000 ≤ d ∧ d ≤ 1000000000000) :
  Calls Tryz.prog 103 #[.int .i64 k,.int .i64 d,.pointer (some ⟨c,0,none⟩)] W fun e w' => e = .returned (.int .i64 (y + k)) ∧ GyS w v0 c base w' (y + k + d) v L ∧ Turns (fun j => j = c) W w' := by
 refine (step_any c y k d hy hk hd W h.b).mono ?_
 rintro e w' ⟨rfl,rfl⟩
 have ht := Turns.setCell (X := fun k => k = c) W (p := ⟨c,0,none⟩) rfl (.int .i64 (y + k + d))
 have hn := h.not hc h0
 exact ⟨rfl,⟨h.t.trans' ht (fun i hi => .inr (by omega)),Boxed.set _ h.b,ownsRow_turns h.row ht (fun g hg e => hn (e ▸ hg)),h.own⟩,ht⟩
theorem GyS.app {w : World} {v0 : Value} {c base : Nat} {W W' : World} {y : Int} {v v' : Value} {L L' : List Gl} (h : GyS w v0 c base W y v L) (hc : w.heap.size = c) (h0 : ∀ k,v0.ownBlock = some k → k < w.heap.size) (hr : W'.ownsRow base 41 4 v' L'.length (L'.flatMap glL)) (ht : Turns (fun g => v.ownBlock = some g) W W') (hw : v'.ownBlock = v.ownBlock ∨ ∀ g,v'.ownBlock = some g → W.heap.size ≤ g) : GyS w v0 c base W' y v' L' := by
 have hlt := Boxed.lt h.b
 refine ⟨h.t.trans' ht (fun i hi => ?_),(ht.block c hlt (h.not hc h0)).trans h.b,hr,?_⟩
 ·rcases h.own with h1 | h1
  ·exact .inl (h1 ▸ hi)
  ·have := h1 i hi; exact .inr (by omega)
 ·rcases hw with h1 | h1
  ·rw [h1]; exact h.own
  ·exact .inr fun g hg => by have := h1 g hg; omega
def GyEnd (w : World) (base : Nat) (v0 : Value) (L0 : List Gl) (M : Nat → Ms) (x : Int) (N : Nat) (e : Ending) (w' : World) : Prop := ∃ v,e = .returned (.tuple #[v,.int .i64 (psN M x N)]) ∧ w'.ownsRow base 41 4 v (L0 ++ glS M x N).length ((L0 ++ glS M x N).flatMap glL) ∧ Turns (fun k => v0.ownBlock = some k) w w' ∧ (v.ownBlock = v0.ownBlock ∨ ∀ g,v.ownBlock = some g → w.heap.size ≤ g)
theorem glyphs_any (w : World) (r g o N cap : Nat) (M : Nat → Ms) (x hy rm : Int) (l : Bool) (vb : Value) (hN : N ≤ 4096) (a : Option Addr) (ha : 0 < N → a = some ⟨g,o,none⟩) (hcap : N ≤ cap) (hM : ∀ i,i < N → (-64 ≤ (M i).q ∧ (M i).q ≤ 0) ∧ -200000000 ≤ (M i).w ∧ (M i).w ≤ 200000000) (hx : -1000000000 ≤ x ∧ x ≤ 1000000000) (hR : RF w g o N M) (hW : RW w r (.slice a N cap) vb x hy rm l)
  (base : Nat) (v0 : Value) (L0 : List Gl) (hL0 : L0.length ≤ 1) (hv0 : w.ownsRow base 41 4 v0 L0.length (L0.flatMap glL)) (hbase : base ≤ w.heap.size) (hvg : 0 < N → v0.ownBlock ≠ some g) (hvr : v0.ownBlock ≠ some r) :
  Calls Tryz.prog 32 #[.pointer (some ⟨r,0,none⟩),v0] w (GyEnd w base v0 L0 M x N) := by
 have hN' : (N : Int) ≤ 4096 := by omega
 have hw := walk_any x w
 obtain ⟨c0,_,c2,_,_,_⟩ := hW.c
 have hB1 := (Below.refl w.heap.size w).alloc (Nat.le_refl _) (.cells #[.int .i64 x] 3)
 have hown : Hid (∀ k,v0.ownBlock = some k → k < w.heap.size) := fun k hk => (hv0.lt k hk).2
 have hI0 : Hid (GyS w v0 w.heap.size base (w.alloc (.cells #[.int .i64 x] 3)) (psN M x 0) v0 (L0 ++ glS M x 0)) := ⟨(Turns.of_below hB1).mono fun _ k => k.elim,Boxed.new _ _ _,by rw [show L0 ++ glS M x 0 = L0 from List.append_nil _]; exact ownsRow_below hv0 hB1,.inl rfl⟩
 have hrow : Hid (∀ W,Turns (fun k => v0.ownBlock = some k) w W → W.cell? ⟨r,0,none⟩ = some (.slice a N cap)) := fun W ht => (hW.turns ht hvr).c.1
 have hcl : Hid (∀ W k,k < N → Turns (fun k => v0.ownBlock = some k) w W → W.cell? ⟨g,o + k * 6,none⟩ = some (.int .i64 (M k).f) ∧ W.cell? ⟨g,o + k * 6 + 1,none⟩ = some (.int .i64 (M k).t) ∧ W.cell? ⟨g,o + k * 6 + 2,none⟩ = some (.int .i64 (M k).k) ∧ W.cell? ⟨g,o + k * 6 + 3,none⟩ = some (.int .i64 (M k).s) ∧ W.cell? ⟨g,o + k * 6 + 4,none⟩ = some (.int .i64 (M k).w) ∧ W.cell? ⟨g,o + k * 6 + 5,none⟩ = some (.int .i64 (M k).q)) := fun W k hk ht => (hR.turns ht (fun h => hvg h)).c hk
 have hpr : Hid (∀ k,k ≤ N → -1000000000000 ≤ psN M x k ∧ psN M x k ≤ 1000000000000) := fun k hk => by
  have := psN_rng hx hM k hk
  omega
 have hMh : Hid (∀ i,i < N → (-64 ≤ (M i).q ∧ (M i).q ≤ 0) ∧ -200000000 ≤ (M i).w ∧ (M i).w ≤ 200000000) := hM
 have c0' := hrow.out _ hI0.out.t
 have hbs : Hid (base ≤ w.heap.size) := hbase
 clear hW hR hM hB1 hbase hv0
 generalize hc0 : w.heap.size = c at *
 replace hc0 : Hid (w.heap.size = c) := hc0
 generalize hw1 : w.alloc (.cells #[.int .i64 x] 3) = w1 at *
 go_enter Tryz.func32,Tryz.ntmps32
 go_wp2_with (go_at_call 61; refine hw.mono ?_; rintro e w' ⟨rfl,rfl⟩; unfold wkV)
 go_loopw [1,19] (fun v i wr => ∃ k : Nat,k ≤ N ∧ i = .int .i64 k ∧ Hid (GyS w v0 c base wr (psN M x k) v (L0 ++ glS M x k))) (fun _ i _ => N - (intOf i).toNat)
 case atStart => exact ⟨0,by omega,rfl,hI0⟩
 case round =>
  obtain ⟨k,hk,rfl,hI⟩ := hrel
  obtain ⟨va,vc,rfl,hvcc⟩ := row_slice glL_len hI.out.row
  obtain ⟨y0,y1⟩ := hpr.out k hk
  by_cases hlt : k < N
  ·obtain rfl := ha (by omega)
   have hlt' : (k : Int) < N := by omega
   obtain ⟨m0,m1,m2,m3,m4,m5⟩ := hcl.out wr k hlt hI.out.t
   obtain ⟨⟨q0,q1⟩,u0,u1⟩ := hMh.out k hlt
   have hIb : Hid (GyS w v0 c base (World.drew (wr.alloc (.cells (msL (M k)).toArray 53))) (psN M x k) (.slice va (L0 ++ glS M x k).length vc) (L0 ++ glS M x k)) := (hI.out.below ((Below.refl wr.heap.size wr).alloc (Nat.le_refl _) _)).drew
   have hMB : Hid (MB5 wr.heap.size (M k) (World.drew (wr.alloc (.cells (msL (M k)).toArray 53)))) := ⟨World.alloc_heap_new wr _⟩
   have hcw : Hid (c < wr.heap.size) := Boxed.lt hI.out.b
   have hcall : Hid (Calls Tryz.prog 103 #[.int .i64 (M k).q,.int .i64 (M k).w,.pointer (some ⟨c,0,none⟩)] (World.drew (wr.alloc (.cells (msL (M k)).toArray 53))) fun e w' => e = .returned (.int .i64 (psN M x k + (M k).q)) ∧ GyS w v0 c base w' (psN M x (k + 1)) (.slice va (L0 ++ glS M x k).length vc) (L0 ++ glS M x k) ∧ MB5 wr.heap.size (M k) w') := by
    refine (hIb.out.step hc0.out (by rw [hc0.out]; exact hown.out) ⟨y0,y1⟩ (by omega) (by omega)).mono ?_
    rintro e w' ⟨rfl,h1,h2⟩
    exact ⟨rfl,h1,hMB.out.turns h2 (by have := hcw.out; omega)⟩
   have hrw : Hid (∀ w1,GyS w v0 c base w1 (psN M x (k + 1)) (.slice va (L0 ++ glS M x k).length vc) (L0 ++ glS M x k) → w1.ownsRow base 41 4 (.slice va (L0 ++ glS M x k).length vc) (L0 ++ glS M x k).length ((L0 ++ glS M x k).flatMap glL) ∧ base ≤ w1.heap.size ∧ ¬ (Value.slice va (L0 ++ glS M x k).length vc).ownBlock = some wr.heap.size) := fun w1 h => ⟨h.row,by have := hbs.out; have := h.t.size; have := hc0.out; omega,fun e => by have := (hI.out.row.lt _ e).2; omega⟩
   have hll : (L0 ++ glS M x k).length ≤ 9000 := by rw [List.length_append,glS_len]; omega
   have hnx : Hid (∀ w1 v' w2,GyS w v0 c base w1 (psN M x (k + 1)) (.slice va (L0 ++ glS M x k).length vc) (L0 ++ glS M x k) → w2.ownsRow base 41 4 v' ((L0 ++ glS M x k) ++ [(⟨(M k).f,(M k).t,psN M x k + (M k).q,(M k).w⟩ : Gl)]).length (((L0 ++ glS M x k) ++ [(⟨(M k).f,(M k).t,psN M x k + (M k).q,(M k).w⟩ : Gl)]).flatMap glL) → Turns (fun g => (Value.slice va (L0 ++ glS M x k).length vc).ownBlock = some g) w1 w2 → (v'.ownBlock = (Value.slice va (L0 ++ glS M x k).length vc).ownBlock ∨ ∀ g,v'.ownBlock = some g → w1.heap.size ≤ g) → GyS w v0 c base w2 (psN M x (k + 1)) v' (L0 ++ glS M x (k + 1))) := fun w1 v' w2 h1 h2 h3 h4 => by
    have := h1.app hc0.out (by rw [hc0.out]; exact hown.out) h2 h3 h4
    rw [List.append_assoc] at this
    exact this
   clear hI
   generalize (L0 ++ glS M x k) = L at *
   generalize hmm : M k = mm at *
   replace hmm : Hid (M k = mm) := hmm
   obtain ⟨x0,x1,x2,x3,x4,x5⟩ := mm
   have e0 : (msL (⟨x0,x1,x2,x3,x4,x5⟩ : Ms)).toArray = #[.int .i64 x0,.int .i64 x1,.int .i64 x2,.int .i64 x3,.int .i64 x4,.int .i64 x5] := rfl
   rw [e0] at hcall hMB hIb
   clear e0
   go_wp2_with fail
   generalize wr.alloc (.cells #[.int .i64 x0,.int .i64 x1,.int .i64 x2,.int .i64 x3,.int .i64 x4,.int .i64 x5] 53) = w3 at *
   refine gl_r5 _ (fun _ _ _ _ _ h => h) _ _ c wr.heap.size ⟨x0,x1,x2,x3,x4,x5⟩ (psN M x k) va L.length vc base L (fun w1 => GyS w v0 c base w1 (psN M x (k + 1)) (.slice va L.length vc) L) w3 hMB.out hcall hrw hll ?_
   intro vv w4 v' w5 h1 h2 h3 h4
   have hI5 : Hid (GyS w v0 c base w5 (psN M x (k + 1)) v' (L0 ++ glS M x (k + 1))) := hnx.out w4 v' w5 h1 h2 h3 h4
   clear h1 h2 h3 h4 hnx
   unfold fr32
   go_wp2_with fail
   exact ⟨⟨k + 1,by omega,by simp,hI5⟩,by simp [intOf]; omega⟩
  ·obtain rfl : k = N := by omega
   have hlt' : ¬ (k : Int) < k := by omega
   have hcall : Hid (Calls Tryz.prog 103 #[.int .i64 0,.int .i64 0,.pointer (some ⟨c,0,none⟩)] wr fun e w' => e = .returned (.int .i64 (psN M x k)) ∧ GyS w v0 c base w' (psN M x k) (.slice va (L0 ++ glS M x k).length vc) (L0 ++ glS M x k)) := by
    refine (hI.out.step hc0.out (by rw [hc0.out]; exact hown.out) ⟨y0,y1⟩ (by omega) (by omega)).mono ?_
    rintro e w' ⟨rfl,h1,h2⟩
    simp only [Int.add_zero] at h1
    exact ⟨by rw [Int.add_zero],h1⟩
   have hend : Hid (∀ w',GyS w v0 c base w' (psN M x k) (.slice va (L0 ++ glS M x k).length vc) (L0 ++ glS M x k) → GyEnd w base v0 L0 M x k (.returned (.tuple #[.slice va (L0 ++ glS M x k).length vc,.int .i64 (psN M x k)])) w') := fun w' h => ⟨_,rfl,h.row,h.t,h.own.imp id (fun h1 g hg => by have := h1 g hg; have := hc0.out; omega)⟩
   clear hI
   generalize (L0 ++ glS M x k).length = ln at *
   go_wp2_with (go_at_call 103; refine hcall.out.mono ?_; rintro e w2 ⟨rfl,h2⟩)
   go_ret2
   exact hend.out _ h2
end Go.Proofs.YtbdpghjegachaaaGreatDoor
