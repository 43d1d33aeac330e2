/-
  What is proved here: the document's Items: items are appended.
  What is proved here: the document's natural width of a run.
  What is proved here: what the document's box answers of a run.
-/
import Derived.Test.YthcphnifnfnceaaGreatDoorG29
import Derived.Test.YthcphnifnfnceaaGreatDoorG2
import Derived.Test.YthcphnifnfnceaaGreatDoorG9
import Derived.Test.YthcphnifnfnceaaGreatDoorG27
import Derived.Test.YthcphnifnfnceaaGreatDoorG12
namespace Go.Proofs.YthcphnifnfnceaaGreatDoor
open Go.RowKit Go.Shelf
set_option maxRecDepth 100000
set_option maxHeartbeats 2000000

theorem info51x : ∃ i : TypeInfo,Tryz.prog.info? 51 = some i ∧ i.zero = some (.agg (itL it0).toArray) ∧ i.size = 8 ∧ i.bytes = 64 := by
 obtain ⟨i9,hi⟩ := Option.isSome_iff_exists.1 (show (Tryz.prog.info? 51).isSome = true by kernel_rfl)
 refine ⟨i9,hi,?_,?_,?_⟩
 ·have h : (Tryz.prog.info? 51).map (·.zero) = some (some (.agg (itL it0).toArray)) := by kernel_rfl
  rw [hi] at h; simpa using h
 ·have h : (Tryz.prog.info? 51).map (·.size) = some 8 := by kernel_rfl
  rw [hi] at h; simpa using h
 ·have h : (Tryz.prog.info? 51).map (·.bytes) = some 64 := by kernel_rfl
  rw [hi] at h; simpa using h
theorem src_it (W : World) (x : It) : Srcs (W.alloc (.cells (itC x) 51)) 8 (.slice (some ⟨W.heap.size,0,none⟩) 1 1) 1 (itL x) := by
 have h := rec_srcs itL_len itL_one (by decide) (rec_new itL_len W 51 [x])
 have e : [x].flatMap itL = itL x := by simp
 rw [e] at h
 exact h
theorem is_app {w1 : World} {v v' : Value} {xs : List It} {W W' : World} (x : It) (h : IS w1 v xs W) (ho : W'.ownsRow w1.heap.size 51 8 v' (xs.length + 1) (xs.flatMap itL ++ itL x)) (hg : (W.alloc (.cells (itC x) 51)).grownBy W' v.ownBlock) : IS w1 v' (xs ++ [x]) W' := by
 have hb := h.be.alloc h.be.size (.cells (itC x) 51)
 refine ⟨below_grown hb (h.ow.alloc _) (Nat.le_refl _) (Nat.le_refl _) hg,?_⟩
 rw [List.length_append,List.flatMap_append]
 have e : [x].flatMap itL = itL x := by simp
 rw [e]
 exact ho

theorem run_build1 (W : World) (x : It) : (Instr.buildSlice 29 1 #[(0,.agg (itC x))]).run Tryz.prog W = .ok (.slice (some ⟨W.heap.size,0,none⟩) 1 1) (W.alloc (.cells (itC x) 51)) := by
 obtain ⟨k0,f0,t0,w0,s0,h0,q0,y0⟩ := x
 kernel_rfl
theorem wp_build1 {oi : Oper} {a : Act} {w : World} {K : Act → World → Prop} {Q : Exit → Act → World → Prop} (y : Operand) (ho : oi.op = .buildSlice 29 1 #[(0,y)]) (x : It) (hy : a.eval y = .agg (itC x))
  (h : K (a.put oi.dst (.slice (some ⟨w.heap.size,0,none⟩) 1 1)) (w.alloc (.cells (itC x) 51))) : oi.wp Tryz.prog a w K Q := by
 have hr := run_build1 w x
 unfold Oper.wp execOp
 simp only [ho,List.map_toArray,List.map_cons,List.map_nil,hy,Sem.run_bind,Sem.run_pure,Result.andThen_ok,hr]
 exact h
def o10b_0 (ps : String) : Oper := ⟨some 76,.move (.tmp 7),29,ps,#[],none⟩
def o10b_1 (ps : String) : Oper := ⟨some 77,.move (.tmp 5),54,ps,#[],none⟩
def o10b_2 (ps : String) : Oper := ⟨some 78,.move (.tmp 9),3,ps,#[],none⟩
def o10b_3 (ps : String) : Oper := ⟨some 79,.move (.tmp 10),3,ps,#[],none⟩
def o10b_4 (ps : String) : Oper := ⟨some 80,.call ⟨.value (.func 43),#[.tmp 77,.tmp 78,.tmp 79],#[54,3,3]⟩,51,ps,#[⟨1,.data⟩,⟨2,.data⟩,⟨3,.data⟩],none⟩
def o10b_5 (ps : String) : Oper := ⟨some 81,.buildSlice 29 1 #[(0,.tmp 80)],29,ps,#[⟨4,.data⟩],none⟩
def o10b_6 (ps : String) : Oper := ⟨some 82,.call ⟨.builtin .append,#[.tmp 76,.tmp 81],#[29,29]⟩,29,ps,#[⟨0,.data⟩,⟨5,.data⟩,⟨4,.chain⟩],none⟩
def o10b_7 (ps : String) : Oper := ⟨some 7,.assign (.tmp 82),29,ps,#[⟨6,.data⟩,⟨6,.chain⟩,⟨0,.phase⟩,⟨1,.phase⟩,⟨2,.phase⟩,⟨3,.phase⟩,⟨4,.phase⟩,⟨5,.phase⟩,⟨6,.phase⟩],none⟩
def o10b (ps : String) : Array Oper := #[o10b_0 ps,o10b_1 ps,o10b_2 ps,o10b_3 ps,o10b_4 ps,o10b_5 ps,o10b_6 ps,o10b_7 ps]

theorem ri_r16 (Q : Exit → Act → World → Prop) (id : Nat) (ps : String) {v0 v1 v2 v3 v4 v5 v6 v7 v8 xb xc xd xe xf xg xh xi xj xk xl xm xn xo xp xq xr xt xu xv xw xx xy xz xA xB xC xD xE xF xG xH xI xJ xK xL xM xN xO xP xQ xR xS xT xU xV xW xX xY xZ ya yb yc yd ye yf yg yh yi yj yk yl ym yn yo yp yq yr yt yu yv yw yx yy yz yA yB yC yD yE yF yG yH yI yJ yK yL yM yN yO yP yQ yR yS yT yU yV yW yX yY yZ za zb zc zd ze zf zg zh zi zj zk zl zm zn zo zp zq zr zs zt zu zv zw zx zy zz zA : Value} (w1 : World) (xs : List It) (x : It) (F kk : Nat) (w : World)
  (hI : IS w1 v7 xs w) (hn : xs.length ≤ 9000) (hc : Hid (Calls Tryz.prog 43 #[v5,.int .i64 (F : Nat),.int .i64 (kk : Nat)] w fun e w' => e = .returned (.agg (itC x)) ∧ Below w.heap.size w w'))
  (hq : Hid (∀ vA W,IS w1 vA (xs ++ [x]) W → ∀ u76 u77 u78 u79 u80 u81 u82,Q .normal (fr10 v0 v1 v2 v3 v4 v5 v6 vA v8 (.int .i64 (F : Nat)) (.int .i64 (kk : Nat)) xb xc xd xe xf xg xh xi xj xk xl xm xn xo xp xq xr xt xu xv xw xx xy xz xA xB xC xD xE xF xG xH xI xJ xK xL xM xN xO xP xQ xR xS xT xU xV xW xX xY xZ ya yb yc yd ye yf yg yh yi yj yk yl ym yn yo u76 u77 u78 u79 u80 u81 u82 yx yy yz yA yB yC yD yE yF yG yH yI yJ yK yL yM yN yO yP yQ yR yS yT yU yV yW yX yY yZ za zb zc zd ze zf zg zh zi zj zk zl zm zn zo zp zq zr zs zt zu zv zw zx zy zz zA) W)) :
  (Code.region id (o10b ps) false).wp Tryz.prog Q (fr10 v0 v1 v2 v3 v4 v5 v6 v7 v8 (.int .i64 (F : Nat)) (.int .i64 (kk : Nat)) xb xc xd xe xf xg xh xi xj xk xl xm xn xo xp xq xr xt xu xv xw xx xy xz xA xB xC xD xE xF xG xH xI xJ xK xL xM xN xO xP xQ xR xS xT xU xV xW xX xY xZ ya yb yc yd ye yf yg yh yi yj yk yl ym yn yo yp yq yr yt yu yv yw yx yy yz yA yB yC yD yE yF yG yH yI yJ yK yL yM yN yO yP yQ yR yS yT yU yV yW yX yY yZ za zb zc zd ze zf zg zh zi zj zk zl zm zn zo zp zq zr zs zt zu zv zw zx zy zz zA) w := by
 refine wp_region_list ?_
 change wpList _ _ _ (List.drop 0 (o10b ps).toList) _ _
 obtain ⟨i0,hi0,hz0,hz1,hz2⟩ := info51x
 refine pures_i 0 4 ?fa1 ?hh1 ?_
 case fa1 => exact (fr10 v0 v1 v2 v3 v4 v5 v6 v7 v8 (.int .i64 (F : Nat)) (.int .i64 (kk : Nat)) xb xc xd xe xf xg xh xi xj xk xl xm xn xo xp xq xr xt xu xv xw xx xy xz xA xB xC xD xE xF xG xH xI xJ xK xL xM xN xO xP xQ xR xS xT xU xV xW xX xY xZ ya yb yc yd ye yf yg yh yi yj yk yl ym yn yo v7 v5 (.int .i64 (F : Nat)) (.int .i64 (kk : Nat)) yu yv yw yx yy yz yA yB yC yD yE yF yG yH yI yJ yK yL yM yN yO yP yQ yR yS yT yU yV yW yX yY yZ za zb zc zd ze zf zg zh zi zj zk zl zm zn zo zp zq zr zs zt zu zv zw zx zy zz zA)
 case hh1 => kernel_rfl
 refine want_i 4 (oi := o10b_4 ps) (by kernel_rfl) (by kernel_rfl) fun K hK => ?_
 unfold fr10 o10b_4
 go_simp
 refine hc.out.mono ?_
 rintro e w2 ⟨rfl,hb2⟩
 have hI2 := hI.step hb2
 refine hK _ _ (cast_l (fr10 v0 v1 v2 v3 v4 v5 v6 v7 v8 (.int .i64 (F : Nat)) (.int .i64 (kk : Nat)) xb xc xd xe xf xg xh xi xj xk xl xm xn xo xp xq xr xt xu xv xw xx xy xz xA xB xC xD xE xF xG xH xI xJ xK xL xM xN xO xP xQ xR xS xT xU xV xW xX xY xZ ya yb yc yd ye yf yg yh yi yj yk yl ym yn yo v7 v5 (.int .i64 (F : Nat)) (.int .i64 (kk : Nat)) (.agg (itC x)) yv yw yx yy yz yA yB yC yD yE yF yG yH yI yJ yK yL yM yN yO yP yQ yR yS yT yU yV yW yX yY yZ za zb zc zd ze zf zg zh zi zj zk zl zm zn zo zp zq zr zs zt zu zv zw zx zy zz zA) (by kernel_rfl) ?_)
 clear hK K
 refine want_i 5 (oi := o10b_5 ps) (by kernel_rfl) (by kernel_rfl) fun K hK => ?_
 refine wp_build1 (Operand.tmp 80) rfl x rfl ?_
 refine hK _ _ (cast_l (fr10 v0 v1 v2 v3 v4 v5 v6 v7 v8 (.int .i64 (F : Nat)) (.int .i64 (kk : Nat)) xb xc xd xe xf xg xh xi xj xk xl xm xn xo xp xq xr xt xu xv xw xx xy xz xA xB xC xD xE xF xG xH xI xJ xK xL xM xN xO xP xQ xR xS xT xU xV xW xX xY xZ ya yb yc yd ye yf yg yh yi yj yk yl ym yn yo v7 v5 (.int .i64 (F : Nat)) (.int .i64 (kk : Nat)) (.agg (itC x)) (.slice (some ⟨w2.heap.size,0,none⟩) 1 1) yw yx yy yz yA yB yC yD yE yF yG yH yI yJ yK yL yM yN yO yP yQ yR yS yT yU yV yW yX yY yZ za zb zc zd ze zf zg zh zi zj zk zl zm zn zo zp zq zr zs zt zu zv zw zx zy zz zA) (by kernel_rfl) ?_)
 clear hK K
 refine want_i 6 (oi := o10b_6 ps) (by kernel_rfl) (by kernel_rfl) fun K hK => ?_
 refine wp_append_any _ (Operand.tmp 76) (Operand.tmp 81) 29 rfl w1.heap.size 51 i0 _ 8 64 Tryz.underlying29 hi0 hz0 hz1 hz2 rfl (by decide) v7 xs.length (xs.flatMap itL) rfl (hI2.ow.alloc _) 1 (itL x) _ rfl (src_it w2 x) (by unfold maxLen; omega) (by omega) (Nat.le_trans hI2.be.size (by simp)) ?_
 intro vA w4 ho hg
 have hI4 := is_app x hI2 ho hg
 clear ho hg
 refine hK _ _ (cast_l (fr10 v0 v1 v2 v3 v4 v5 v6 v7 v8 (.int .i64 (F : Nat)) (.int .i64 (kk : Nat)) xb xc xd xe xf xg xh xi xj xk xl xm xn xo xp xq xr xt xu xv xw xx xy xz xA xB xC xD xE xF xG xH xI xJ xK xL xM xN xO xP xQ xR xS xT xU xV xW xX xY xZ ya yb yc yd ye yf yg yh yi yj yk yl ym yn yo v7 v5 (.int .i64 (F : Nat)) (.int .i64 (kk : Nat)) (.agg (itC x)) (.slice (some ⟨w2.heap.size,0,none⟩) 1 1) vA yx yy yz yA yB yC yD yE yF yG yH yI yJ yK yL yM yN yO yP yQ yR yS yT yU yV yW yX yY yZ za zb zc zd ze zf zg zh zi zj zk zl zm zn zo zp zq zr zs zt zu zv zw zx zy zz zA) (by kernel_rfl) ?_)
 clear hK K
 refine pures_i 7 1 ?fa2 ?hh2 ?_
 case fa2 => exact (fr10 v0 v1 v2 v3 v4 v5 v6 vA v8 (.int .i64 (F : Nat)) (.int .i64 (kk : Nat)) xb xc xd xe xf xg xh xi xj xk xl xm xn xo xp xq xr xt xu xv xw xx xy xz xA xB xC xD xE xF xG xH xI xJ xK xL xM xN xO xP xQ xR xS xT xU xV xW xX xY xZ ya yb yc yd ye yf yg yh yi yj yk yl ym yn yo v7 v5 (.int .i64 (F : Nat)) (.int .i64 (kk : Nat)) (.agg (itC x)) (.slice (some ⟨w2.heap.size,0,none⟩) 1 1) vA yx yy yz yA yB yC yD yE yF yG yH yI yJ yK yL yM yN yO yP yQ yR yS yT yU yV yW yX yY yZ za zb zc zd ze zf zg zh zi zj zk zl zm zn zo zp zq zr zs zt zu zv zw zx zy zz zA)
 case hh2 => kernel_rfl
 exact end_i 8 (by kernel_rfl) (hq.out _ _ hI4 _ _ _ _ _ _ _)
def o10c_0 (ps : String) : Oper := ⟨some 115,.move (.tmp 7),29,ps,#[],none⟩
def o10c_1 (ps : String) : Oper := ⟨some 116,.move (.tmp 5),54,ps,#[],none⟩
def o10c_2 (ps : String) : Oper := ⟨some 117,.move (.tmp 9),3,ps,#[],none⟩
def o10c_3 (ps : String) : Oper := ⟨some 118,.move (.tmp 10),3,ps,#[],none⟩
def o10c_4 (ps : String) : Oper := ⟨some 119,.call ⟨.value (.func 43),#[.tmp 116,.tmp 117,.tmp 118],#[54,3,3]⟩,51,ps,#[⟨1,.data⟩,⟨2,.data⟩,⟨3,.data⟩],none⟩
def o10c_5 (ps : String) : Oper := ⟨some 120,.buildSlice 29 1 #[(0,.tmp 119)],29,ps,#[⟨4,.data⟩],none⟩
def o10c_6 (ps : String) : Oper := ⟨some 121,.call ⟨.builtin .append,#[.tmp 115,.tmp 120],#[29,29]⟩,29,ps,#[⟨0,.data⟩,⟨5,.data⟩,⟨4,.chain⟩],none⟩
def o10c_7 (ps : String) : Oper := ⟨some 7,.assign (.tmp 121),29,ps,#[⟨6,.data⟩,⟨6,.chain⟩,⟨0,.phase⟩,⟨1,.phase⟩,⟨2,.phase⟩,⟨3,.phase⟩,⟨4,.phase⟩,⟨5,.phase⟩,⟨6,.phase⟩],none⟩
def o10c (ps : String) : Array Oper := #[o10c_0 ps,o10c_1 ps,o10c_2 ps,o10c_3 ps,o10c_4 ps,o10c_5 ps,o10c_6 ps,o10c_7 ps]

theorem ri_r25 (Q : Exit → Act → World → Prop) (id : Nat) (ps : String) {v0 v1 v2 v3 v4 v5 v6 v7 v8 xb xc xd xe xf xg xh xi xj xk xl xm xn xo xp xq xr xt xu xv xw xx xy xz xA xB xC xD xE xF xG xH xI xJ xK xL xM xN xO xP xQ xR xS xT xU xV xW xX xY xZ ya yb yc yd ye yf yg yh yi yj yk yl ym yn yo yp yq yr yt yu yv yw yx yy yz yA yB yC yD yE yF yG yH yI yJ yK yL yM yN yO yP yQ yR yS yT yU yV yW yX yY yZ za zb zc zd ze zf zg zh zi zj zk zl zm zn zo zp zq zr zs zt zu zv zw zx zy zz zA : Value} (w1 : World) (xs : List It) (x : It) (F kk : Nat) (w : World)
  (hI : IS w1 v7 xs w) (hn : xs.length ≤ 9000) (hc : Hid (Calls Tryz.prog 43 #[v5,.int .i64 (F : Nat),.int .i64 (kk : Nat)] w fun e w' => e = .returned (.agg (itC x)) ∧ Below w.heap.size w w'))
  (hq : Hid (∀ vA W,IS w1 vA (xs ++ [x]) W → ∀ u115 u116 u117 u118 u119 u120 u121,Q .normal (fr10 v0 v1 v2 v3 v4 v5 v6 vA v8 (.int .i64 (F : Nat)) (.int .i64 (kk : Nat)) xb xc xd xe xf xg xh xi xj xk xl xm xn xo xp xq xr xt xu xv xw xx xy xz xA xB xC xD xE xF xG xH xI xJ xK xL xM xN xO xP xQ xR xS xT xU xV xW xX xY xZ ya yb yc yd ye yf yg yh yi yj yk yl ym yn yo yp yq yr yt yu yv yw yx yy yz yA yB yC yD yE yF yG yH yI yJ yK yL yM yN yO yP yQ yR yS yT yU yV yW yX yY yZ za zb zc u115 u116 u117 u118 u119 u120 u121 zk zl zm zn zo zp zq zr zs zt zu zv zw zx zy zz zA) W)) :
  (Code.region id (o10c ps) false).wp Tryz.prog Q (fr10 v0 v1 v2 v3 v4 v5 v6 v7 v8 (.int .i64 (F : Nat)) (.int .i64 (kk : Nat)) xb xc xd xe xf xg xh xi xj xk xl xm xn xo xp xq xr xt xu xv xw xx xy xz xA xB xC xD xE xF xG xH xI xJ xK xL xM xN xO xP xQ xR xS xT xU xV xW xX xY xZ ya yb yc yd ye yf yg yh yi yj yk yl ym yn yo yp yq yr yt yu yv yw yx yy yz yA yB yC yD yE yF yG yH yI yJ yK yL yM yN yO yP yQ yR yS yT yU yV yW yX yY yZ za zb zc zd ze zf zg zh zi zj zk zl zm zn zo zp zq zr zs zt zu zv zw zx zy zz zA) w := by
 refine wp_region_list ?_
 change wpList _ _ _ (List.drop 0 (o10c ps).toList) _ _
 obtain ⟨i0,hi0,hz0,hz1,hz2⟩ := info51x
 refine pures_i 0 4 ?fa1 ?hh1 ?_
 case fa1 => exact (fr10 v0 v1 v2 v3 v4 v5 v6 v7 v8 (.int .i64 (F : Nat)) (.int .i64 (kk : Nat)) xb xc xd xe xf xg xh xi xj xk xl xm xn xo xp xq xr xt xu xv xw xx xy xz xA xB xC xD xE xF xG xH xI xJ xK xL xM xN xO xP xQ xR xS xT xU xV xW xX xY xZ ya yb yc yd ye yf yg yh yi yj yk yl ym yn yo yp yq yr yt yu yv yw yx yy yz yA yB yC yD yE yF yG yH yI yJ yK yL yM yN yO yP yQ yR yS yT yU yV yW yX yY yZ za zb zc v7 v5 (.int .i64 (F : Nat)) (.int .i64 (kk : Nat)) zh zi zj zk zl zm zn zo zp zq zr zs zt zu zv zw zx zy zz zA)
 case hh1 => kernel_rfl
 refine want_i 4 (oi := o10c_4 ps) (by kernel_rfl) (by kernel_rfl) fun K hK => ?_
 unfold fr10 o10c_4
 go_simp
 refine hc.out.mono ?_
 rintro e w2 ⟨rfl,hb2⟩
 have hI2 := hI.step hb2
 refine hK _ _ (cast_l (fr10 v0 v1 v2 v3 v4 v5 v6 v7 v8 (.int .i64 (F : Nat)) (.int .i64 (kk : Nat)) xb xc xd xe xf xg xh xi xj xk xl xm xn xo xp xq xr xt xu xv xw xx xy xz xA xB xC xD xE xF xG xH xI xJ xK xL xM xN xO xP xQ xR xS xT xU xV xW xX xY xZ ya yb yc yd ye yf yg yh yi yj yk yl ym yn yo yp yq yr yt yu yv yw yx yy yz yA yB yC yD yE yF yG yH yI yJ yK yL yM yN yO yP yQ yR yS yT yU yV yW yX yY yZ za zb zc v7 v5 (.int .i64 (F : Nat)) (.int .i64 (kk : Nat)) (.agg (itC x)) zi zj zk zl zm zn zo zp zq zr zs zt zu zv zw zx zy zz zA) (by kernel_rfl) ?_)
 clear hK K
 refine want_i 5 (oi := o10c_5 ps) (by kernel_rfl) (by kernel_rfl) fun K hK => ?_
 refine wp_build1 (Operand.tmp 119) rfl x rfl ?_
 refine hK _ _ (cast_l (fr10 v0 v1 v2 v3 v4 v5 v6 v7 v8 (.int .i64 (F : Nat)) (.int .i64 (kk : Nat)) xb xc xd xe xf xg xh xi xj xk xl xm xn xo xp xq xr xt xu xv xw xx xy xz xA xB xC xD xE xF xG xH xI xJ xK xL xM xN xO xP xQ xR xS xT xU xV xW xX xY xZ ya yb yc yd ye yf yg yh yi yj yk yl ym yn yo yp yq yr yt yu yv yw yx yy yz yA yB yC yD yE yF yG yH yI yJ yK yL yM yN yO yP yQ yR yS yT yU yV yW yX yY yZ za zb zc v7 v5 (.int .i64 (F : Nat)) (.int .i64 (kk : Nat)) (.agg (itC x)) (.slice (some ⟨w2.heap.size,0,none⟩) 1 1) zj zk zl zm zn zo zp zq zr zs zt zu zv zw zx zy zz zA) (by kernel_rfl) ?_)
 clear hK K
 refine want_i 6 (oi := o10c_6 ps) (by kernel_rfl) (by kernel_rfl) fun K hK => ?_
 refine wp_append_any _ (Operand.tmp 115) (Operand.tmp 120) 29 rfl w1.heap.size 51 i0 _ 8 64 Tryz.underlying29 hi0 hz0 hz1 hz2 rfl (by decide) v7 xs.length (xs.flatMap itL) rfl (hI2.ow.alloc _) 1 (itL x) _ rfl (src_it w2 x) (by unfold maxLen; omega) (by omega) (Nat.le_trans hI2.be.size (by simp)) ?_
 intro vA w4 ho hg
 have hI4 := is_app x hI2 ho hg
 clear ho hg
 refine hK _ _ (cast_l (fr10 v0 v1 v2 v3 v4 v5 v6 v7 v8 (.int .i64 (F : Nat)) (.int .i64 (kk : Nat)) xb xc xd xe xf xg xh xi xj xk xl xm xn xo xp xq xr xt xu xv xw xx xy xz xA xB xC xD xE xF xG xH xI xJ xK xL xM xN xO xP xQ xR xS xT xU xV xW xX xY xZ ya yb yc yd ye yf yg yh yi yj yk yl ym yn yo yp yq yr yt yu yv yw yx yy yz yA yB yC yD yE yF yG yH yI yJ yK yL yM yN yO yP yQ yR yS yT yU yV yW yX yY yZ za zb zc v7 v5 (.int .i64 (F : Nat)) (.int .i64 (kk : Nat)) (.agg (itC x)) (.slice (some ⟨w2.heap.size,0,none⟩) 1 1) vA zk zl zm zn zo zp zq zr zs zt zu zv zw zx zy zz zA) (by kernel_rfl) ?_)
 clear hK K
 refine pures_i 7 1 ?fa2 ?hh2 ?_
 case fa2 => exact (fr10 v0 v1 v2 v3 v4 v5 v6 vA v8 (.int .i64 (F : Nat)) (.int .i64 (kk : Nat)) xb xc xd xe xf xg xh xi xj xk xl xm xn xo xp xq xr xt xu xv xw xx xy xz xA xB xC xD xE xF xG xH xI xJ xK xL xM xN xO xP xQ xR xS xT xU xV xW xX xY xZ ya yb yc yd ye yf yg yh yi yj yk yl ym yn yo yp yq yr yt yu yv yw yx yy yz yA yB yC yD yE yF yG yH yI yJ yK yL yM yN yO yP yQ yR yS yT yU yV yW yX yY yZ za zb zc v7 v5 (.int .i64 (F : Nat)) (.int .i64 (kk : Nat)) (.agg (itC x)) (.slice (some ⟨w2.heap.size,0,none⟩) 1 1) vA zk zl zm zn zo zp zq zr zs zt zu zv zw zx zy zz zA)
 case hh2 => kernel_rfl
 exact end_i 8 (by kernel_rfl) (hq.out _ _ hI4 _ _ _ _ _ _ _)
def o10d_0 (ps : String) : Oper := ⟨some 130,.move (.tmp 7),29,ps,#[],none⟩
def o10d_1 (ps : String) : Oper := ⟨some 131,.move (.tmp 5),54,ps,#[],none⟩
def o10d_2 (ps : String) : Oper := ⟨some 132,.move (.tmp 10),3,ps,#[],none⟩
def o10d_3 (ps : String) : Oper := ⟨some 133,.indexAddr 54 (.tmp 131) (.tmp 132),0,ps,#[⟨1,.data⟩,⟨2,.data⟩],none⟩
def o10d_4 (ps : String) : Oper := ⟨some 134,.load 58 (.tmp 133),58,ps,#[⟨3,.data⟩],none⟩
def o10d_5 (ps : String) : Oper := ⟨some 135,.call ⟨.value (.func 45),#[.tmp 134],#[58]⟩,51,ps,#[⟨4,.data⟩],none⟩
def o10d_6 (ps : String) : Oper := ⟨some 136,.buildSlice 29 1 #[(0,.tmp 135)],29,ps,#[⟨5,.data⟩],none⟩
def o10d_7 (ps : String) : Oper := ⟨some 137,.call ⟨.builtin .append,#[.tmp 130,.tmp 136],#[29,29]⟩,29,ps,#[⟨0,.data⟩,⟨6,.data⟩,⟨5,.chain⟩],none⟩
def o10d_8 (ps : String) : Oper := ⟨some 7,.assign (.tmp 137),29,ps,#[⟨7,.data⟩,⟨7,.chain⟩,⟨0,.phase⟩,⟨1,.phase⟩,⟨2,.phase⟩,⟨3,.phase⟩,⟨4,.phase⟩,⟨5,.phase⟩,⟨6,.phase⟩,⟨7,.phase⟩],none⟩
def o10d (ps : String) : Array Oper := #[o10d_0 ps,o10d_1 ps,o10d_2 ps,o10d_3 ps,o10d_4 ps,o10d_5 ps,o10d_6 ps,o10d_7 ps,o10d_8 ps]

theorem ri_r29 (Q : Exit → Act → World → Prop) (id : Nat) (ps : String) {v0 v1 v2 v3 v4 v6 v7 v8 v9 xb xc xd xe xf xg xh xi xj xk xl xm xn xo xp xq xr xt xu xv xw xx xy xz xA xB xC xD xE xF xG xH xI xJ xK xL xM xN xO xP xQ xR xS xT xU xV xW xX xY xZ ya yb yc yd ye yf yg yh yi yj yk yl ym yn yo yp yq yr yt yu yv yw yx yy yz yA yB yC yD yE yF yG yH yI yJ yK yL yM yN yO yP yQ yR yS yT yU yV yW yX yY yZ za zb zc zd ze zf zg zh zi zj zk zl zm zn zo zp zq zr zs zt zu zv zw zx zy zz zA : Value} (w1 : World) (xs : List It) (x : It) (m : Ms) (g o n cap kk : Nat) (w : World)
  (hI : IS w1 v7 xs w) (hn : xs.length ≤ 9000) (hk : (kk : Int) < n) (hM : w.rangeAt g (o + kk * 6) (msL m)) (hc : Hid (Calls Tryz.prog 45 #[.agg (msC m)] w fun e w' => e = .returned (.agg (itC x)) ∧ Below w.heap.size w w'))
  (hq : Hid (∀ vA W,IS w1 vA (xs ++ [x]) W → ∀ u130 u131 u132 u133 u134 u135 u136 u137,Q .normal (fr10 v0 v1 v2 v3 v4 (.slice (some ⟨g,o,none⟩) n cap) v6 vA v8 v9 (.int .i64 (kk : Nat)) xb xc xd xe xf xg xh xi xj xk xl xm xn xo xp xq xr xt xu xv xw xx xy xz xA xB xC xD xE xF xG xH xI xJ xK xL xM xN xO xP xQ xR xS xT xU xV xW xX xY xZ ya yb yc yd ye yf yg yh yi yj yk yl ym yn yo yp yq yr yt yu yv yw yx yy yz yA yB yC yD yE yF yG yH yI yJ yK yL yM yN yO yP yQ yR yS yT yU yV yW yX yY yZ za zb zc zd ze zf zg zh zi zj zk zl zm zn zo zp zq zr u130 u131 u132 u133 u134 u135 u136 u137 zA) W)) :
  (Code.region id (o10d ps) false).wp Tryz.prog Q (fr10 v0 v1 v2 v3 v4 (.slice (some ⟨g,o,none⟩) n cap) v6 v7 v8 v9 (.int .i64 (kk : Nat)) xb xc xd xe xf xg xh xi xj xk xl xm xn xo xp xq xr xt xu xv xw xx xy xz xA xB xC xD xE xF xG xH xI xJ xK xL xM xN xO xP xQ xR xS xT xU xV xW xX xY xZ ya yb yc yd ye yf yg yh yi yj yk yl ym yn yo yp yq yr yt yu yv yw yx yy yz yA yB yC yD yE yF yG yH yI yJ yK yL yM yN yO yP yQ yR yS yT yU yV yW yX yY yZ za zb zc zd ze zf zg zh zi zj zk zl zm zn zo zp zq zr zs zt zu zv zw zx zy zz zA) w := by
 refine wp_region_list ?_
 change wpList _ _ _ (List.drop 0 (o10d ps).toList) _ _
 obtain ⟨i0,hi0,hz0,hz1,hz2⟩ := info51x
 refine pures_i 0 3 ?fa1 ?hh1 ?_
 case fa1 => exact (fr10 v0 v1 v2 v3 v4 (.slice (some ⟨g,o,none⟩) n cap) v6 v7 v8 v9 (.int .i64 (kk : Nat)) xb xc xd xe xf xg xh xi xj xk xl xm xn xo xp xq xr xt xu xv xw xx xy xz xA xB xC xD xE xF xG xH xI xJ xK xL xM xN xO xP xQ xR xS xT xU xV xW xX xY xZ ya yb yc yd ye yf yg yh yi yj yk yl ym yn yo yp yq yr yt yu yv yw yx yy yz yA yB yC yD yE yF yG yH yI yJ yK yL yM yN yO yP yQ yR yS yT yU yV yW yX yY yZ za zb zc zd ze zf zg zh zi zj zk zl zm zn zo zp zq zr v7 (.slice (some ⟨g,o,none⟩) n cap) (.int .i64 (kk : Nat)) zv zw zx zy zz zA)
 case hh1 => kernel_rfl
 refine want_i 3 (oi := o10d_3 ps) (by kernel_rfl) (by kernel_rfl) fun K hK => ?_
 unfold fr10 o10d_3
 go_simp
 refine hK _ _ (cast_l (fr10 v0 v1 v2 v3 v4 (.slice (some ⟨g,o,none⟩) n cap) v6 v7 v8 v9 (.int .i64 (kk : Nat)) xb xc xd xe xf xg xh xi xj xk xl xm xn xo xp xq xr xt xu xv xw xx xy xz xA xB xC xD xE xF xG xH xI xJ xK xL xM xN xO xP xQ xR xS xT xU xV xW xX xY xZ ya yb yc yd ye yf yg yh yi yj yk yl ym yn yo yp yq yr yt yu yv yw yx yy yz yA yB yC yD yE yF yG yH yI yJ yK yL yM yN yO yP yQ yR yS yT yU yV yW yX yY yZ za zb zc zd ze zf zg zh zi zj zk zl zm zn zo zp zq zr v7 (.slice (some ⟨g,o,none⟩) n cap) (.int .i64 (kk : Nat)) (.pointer (some ⟨g,o + kk * 6,none⟩)) zw zx zy zz zA) (by kernel_rfl) ?_)
 clear hK K
 refine want_i 4 (oi := o10d_4 ps) (by kernel_rfl) (by kernel_rfl) fun K hK => ?_
 refine wp_load_mid 58 (.tmp 133) rfl g (o + kk * 6) rfl (msL m) _ hM Tryz.underlying58 rfl (info58L m) ?_
 refine hK _ _ (cast_l (fr10 v0 v1 v2 v3 v4 (.slice (some ⟨g,o,none⟩) n cap) v6 v7 v8 v9 (.int .i64 (kk : Nat)) xb xc xd xe xf xg xh xi xj xk xl xm xn xo xp xq xr xt xu xv xw xx xy xz xA xB xC xD xE xF xG xH xI xJ xK xL xM xN xO xP xQ xR xS xT xU xV xW xX xY xZ ya yb yc yd ye yf yg yh yi yj yk yl ym yn yo yp yq yr yt yu yv yw yx yy yz yA yB yC yD yE yF yG yH yI yJ yK yL yM yN yO yP yQ yR yS yT yU yV yW yX yY yZ za zb zc zd ze zf zg zh zi zj zk zl zm zn zo zp zq zr v7 (.slice (some ⟨g,o,none⟩) n cap) (.int .i64 (kk : Nat)) (.pointer (some ⟨g,o + kk * 6,none⟩)) (.agg (msC m)) zx zy zz zA) (by kernel_rfl) ?_)
 clear hK K
 refine want_i 5 (oi := o10d_5 ps) (by kernel_rfl) (by kernel_rfl) fun K hK => ?_
 unfold fr10 o10d_5
 go_simp
 refine hc.out.mono ?_
 rintro e w2 ⟨rfl,hb2⟩
 have hI2 := hI.step hb2
 refine hK _ _ (cast_l (fr10 v0 v1 v2 v3 v4 (.slice (some ⟨g,o,none⟩) n cap) v6 v7 v8 v9 (.int .i64 (kk : Nat)) xb xc xd xe xf xg xh xi xj xk xl xm xn xo xp xq xr xt xu xv xw xx xy xz xA xB xC xD xE xF xG xH xI xJ xK xL xM xN xO xP xQ xR xS xT xU xV xW xX xY xZ ya yb yc yd ye yf yg yh yi yj yk yl ym yn yo yp yq yr yt yu yv yw yx yy yz yA yB yC yD yE yF yG yH yI yJ yK yL yM yN yO yP yQ yR yS yT yU yV yW yX yY yZ za zb zc zd ze zf zg zh zi zj zk zl zm zn zo zp zq zr v7 (.slice (some ⟨g,o,none⟩) n cap) (.int .i64 (kk : Nat)) (.pointer (some ⟨g,o + kk * 6,none⟩)) (.agg (msC m)) (.agg (itC x)) zy zz zA) (by kernel_rfl) ?_)
 clear hK K
 refine want_i 6 (oi := o10d_6 ps) (by kernel_rfl) (by kernel_rfl) fun K hK => ?_
 refine wp_build1 (Operand.tmp 135) rfl x rfl ?_
 refine hK _ _ (cast_l (fr10 v0 v1 v2 v3 v4 (.slice (some ⟨g,o,none⟩) n cap) v6 v7 v8 v9 (.int .i64 (kk : Nat)) xb xc xd xe xf xg xh xi xj xk xl xm xn xo xp xq xr xt xu xv xw xx xy xz xA xB xC xD xE xF xG xH xI xJ xK xL xM xN xO xP xQ xR xS xT xU xV xW xX xY xZ ya yb yc yd ye yf yg yh yi yj yk yl ym yn yo yp yq yr yt yu yv yw yx yy yz yA yB yC yD yE yF yG yH yI yJ yK yL yM yN yO yP yQ yR yS yT yU yV yW yX yY yZ za zb zc zd ze zf zg zh zi zj zk zl zm zn zo zp zq zr v7 (.slice (some ⟨g,o,none⟩) n cap) (.int .i64 (kk : Nat)) (.pointer (some ⟨g,o + kk * 6,none⟩)) (.agg (msC m)) (.agg (itC x)) (.slice (some ⟨w2.heap.size,0,none⟩) 1 1) zz zA) (by kernel_rfl) ?_)
 clear hK K
 refine want_i 7 (oi := o10d_7 ps) (by kernel_rfl) (by kernel_rfl) fun K hK => ?_
 refine wp_append_any _ (Operand.tmp 130) (Operand.tmp 136) 29 rfl w1.heap.size 51 i0 _ 8 64 Tryz.underlying29 hi0 hz0 hz1 hz2 rfl (by decide) v7 xs.length (xs.flatMap itL) rfl (hI2.ow.alloc _) 1 (itL x) _ rfl (src_it w2 x) (by unfold maxLen; omega) (by omega) (Nat.le_trans hI2.be.size (by simp)) ?_
 intro vA w4 ho hg
 have hI4 := is_app x hI2 ho hg
 clear ho hg
 refine hK _ _ (cast_l (fr10 v0 v1 v2 v3 v4 (.slice (some ⟨g,o,none⟩) n cap) v6 v7 v8 v9 (.int .i64 (kk : Nat)) xb xc xd xe xf xg xh xi xj xk xl xm xn xo xp xq xr xt xu xv xw xx xy xz xA xB xC xD xE xF xG xH xI xJ xK xL xM xN xO xP xQ xR xS xT xU xV xW xX xY xZ ya yb yc yd ye yf yg yh yi yj yk yl ym yn yo yp yq yr yt yu yv yw yx yy yz yA yB yC yD yE yF yG yH yI yJ yK yL yM yN yO yP yQ yR yS yT yU yV yW yX yY yZ za zb zc zd ze zf zg zh zi zj zk zl zm zn zo zp zq zr v7 (.slice (some ⟨g,o,none⟩) n cap) (.int .i64 (kk : Nat)) (.pointer (some ⟨g,o + kk * 6,none⟩)) (.agg (msC m)) (.agg (itC x)) (.slice (some ⟨w2.heap.size,0,none⟩) 1 1) vA zA) (by kernel_rfl) ?_)
 clear hK K
 refine pures_i 8 1 ?fa2 ?hh2 ?_
 case fa2 => exact (fr10 v0 v1 v2 v3 v4 (.slice (some ⟨g,o,none⟩) n cap) v6 vA v8 v9 (.int .i64 (kk : Nat)) xb xc xd xe xf xg xh xi xj xk xl xm xn xo xp xq xr xt xu xv xw xx xy xz xA xB xC xD xE xF xG xH xI xJ xK xL xM xN xO xP xQ xR xS xT xU xV xW xX xY xZ ya yb yc yd ye yf yg yh yi yj yk yl ym yn yo yp yq yr yt yu yv yw yx yy yz yA yB yC yD yE yF yG yH yI yJ yK yL yM yN yO yP yQ yR yS yT yU yV yW yX yY yZ za zb zc zd ze zf zg zh zi zj zk zl zm zn zo zp zq zr v7 (.slice (some ⟨g,o,none⟩) n cap) (.int .i64 (kk : Nat)) (.pointer (some ⟨g,o + kk * 6,none⟩)) (.agg (msC m)) (.agg (itC x)) (.slice (some ⟨w2.heap.size,0,none⟩) 1 1) vA zA)
 case hh2 => kernel_rfl
 exact end_i 9 (by kernel_rfl) (hq.out _ _ hI4 _ _ _ _ _ _ _ _)
def o10e_0 (ps : String) : Oper := ⟨some 107,.move (.tmp 7),29,ps,#[],none⟩
def o10e_1 (ps : String) : Oper := ⟨some 108,.load 51 (.tmp 12),51,ps,#[],none⟩
def o10e_2 (ps : String) : Oper := ⟨some 109,.buildSlice 29 1 #[(0,.tmp 108)],29,ps,#[⟨1,.data⟩],none⟩
def o10e_3 (ps : String) : Oper := ⟨some 110,.call ⟨.builtin .append,#[.tmp 107,.tmp 109],#[29,29]⟩,29,ps,#[⟨0,.data⟩,⟨2,.data⟩],none⟩
def o10e_4 (ps : String) : Oper := ⟨some 7,.assign (.tmp 110),29,ps,#[⟨3,.data⟩,⟨3,.chain⟩,⟨0,.phase⟩,⟨1,.phase⟩,⟨2,.phase⟩,⟨3,.phase⟩],none⟩
def o10e (ps : String) : Array Oper := #[o10e_0 ps,o10e_1 ps,o10e_2 ps,o10e_3 ps,o10e_4 ps]

theorem ri_r22 (Q : Exit → Act → World → Prop) (id : Nat) (ps : String) {v0 v1 v2 v3 v4 v5 v6 v7 v8 v9 xa xb xd xe xf xg xh xi xj xk xl xm xn xo xp xq xr xt xu xv xw xx xy xz xA xB xC xD xE xF xG xH xI xJ xK xL xM xN xO xP xQ xR xS xT xU xV xW xX xY xZ ya yb yc yd ye yf yg yh yi yj yk yl ym yn yo yp yq yr yt yu yv yw yx yy yz yA yB yC yD yE yF yG yH yI yJ yK yL yM yN yO yP yQ yR yS yT yU yV yW yX yY yZ za zb zc zd ze zf zg zh zi zj zk zl zm zn zo zp zq zr zs zt zu zv zw zx zy zz zA : Value} (w1 : World) (xs : List It) (x : It) (D : Nat) (w : World)
  (hI : IS w1 v7 xs w) (hn : xs.length ≤ 9000) (hX : IX w D x)
  (hq : Hid (∀ vA W,IS w1 vA (xs ++ [x]) W → ∀ u107 u108 u109 u110,Q .normal (fr10 v0 v1 v2 v3 v4 v5 v6 vA v8 v9 xa xb (.pointer (some ⟨D,0,none⟩)) xd xe xf xg xh xi xj xk xl xm xn xo xp xq xr xt xu xv xw xx xy xz xA xB xC xD xE xF xG xH xI xJ xK xL xM xN xO xP xQ xR xS xT xU xV xW xX xY xZ ya yb yc yd ye yf yg yh yi yj yk yl ym yn yo yp yq yr yt yu yv yw yx yy yz yA yB yC yD yE yF yG yH yI yJ yK yL yM yN yO yP yQ yR yS yT yU u107 u108 u109 u110 yZ za zb zc zd ze zf zg zh zi zj zk zl zm zn zo zp zq zr zs zt zu zv zw zx zy zz zA) W)) :
  (Code.region id (o10e ps) false).wp Tryz.prog Q (fr10 v0 v1 v2 v3 v4 v5 v6 v7 v8 v9 xa xb (.pointer (some ⟨D,0,none⟩)) xd xe xf xg xh xi xj xk xl xm xn xo xp xq xr xt xu xv xw xx xy xz xA xB xC xD xE xF xG xH xI xJ xK xL xM xN xO xP xQ xR xS xT xU xV xW xX xY xZ ya yb yc yd ye yf yg yh yi yj yk yl ym yn yo yp yq yr yt yu yv yw yx yy yz yA yB yC yD yE yF yG yH yI yJ yK yL yM yN yO yP yQ yR yS yT yU yV yW yX yY yZ za zb zc zd ze zf zg zh zi zj zk zl zm zn zo zp zq zr zs zt zu zv zw zx zy zz zA) w := by
 refine wp_region_list ?_
 change wpList _ _ _ (List.drop 0 (o10e ps).toList) _ _
 obtain ⟨i0,hi0,hz0,hz1,hz2⟩ := info51x
 refine pures_i 0 1 ?fa1 ?hh1 ?_
 case fa1 => exact (fr10 v0 v1 v2 v3 v4 v5 v6 v7 v8 v9 xa xb (.pointer (some ⟨D,0,none⟩)) xd xe xf xg xh xi xj xk xl xm xn xo xp xq xr xt xu xv xw xx xy xz xA xB xC xD xE xF xG xH xI xJ xK xL xM xN xO xP xQ xR xS xT xU xV xW xX xY xZ ya yb yc yd ye yf yg yh yi yj yk yl ym yn yo yp yq yr yt yu yv yw yx yy yz yA yB yC yD yE yF yG yH yI yJ yK yL yM yN yO yP yQ yR yS yT yU v7 yW yX yY yZ za zb zc zd ze zf zg zh zi zj zk zl zm zn zo zp zq zr zs zt zu zv zw zx zy zz zA)
 case hh1 => kernel_rfl
 refine want_i 1 (oi := o10e_1 ps) (by kernel_rfl) (by kernel_rfl) fun K hK => ?_
 refine wp_load_row 51 (.tmp 12) rfl D rfl 51 _ (0,0) _ hX.row Tryz.underlying51 rfl (info51 _) ?_
 refine hK _ _ (cast_l (fr10 v0 v1 v2 v3 v4 v5 v6 v7 v8 v9 xa xb (.pointer (some ⟨D,0,none⟩)) xd xe xf xg xh xi xj xk xl xm xn xo xp xq xr xt xu xv xw xx xy xz xA xB xC xD xE xF xG xH xI xJ xK xL xM xN xO xP xQ xR xS xT xU xV xW xX xY xZ ya yb yc yd ye yf yg yh yi yj yk yl ym yn yo yp yq yr yt yu yv yw yx yy yz yA yB yC yD yE yF yG yH yI yJ yK yL yM yN yO yP yQ yR yS yT yU v7 (.agg (itC x)) yX yY yZ za zb zc zd ze zf zg zh zi zj zk zl zm zn zo zp zq zr zs zt zu zv zw zx zy zz zA) (by kernel_rfl) ?_)
 clear hK K
 refine want_i 2 (oi := o10e_2 ps) (by kernel_rfl) (by kernel_rfl) fun K hK => ?_
 refine wp_build1 (Operand.tmp 108) rfl x rfl ?_
 refine hK _ _ (cast_l (fr10 v0 v1 v2 v3 v4 v5 v6 v7 v8 v9 xa xb (.pointer (some ⟨D,0,none⟩)) xd xe xf xg xh xi xj xk xl xm xn xo xp xq xr xt xu xv xw xx xy xz xA xB xC xD xE xF xG xH xI xJ xK xL xM xN xO xP xQ xR xS xT xU xV xW xX xY xZ ya yb yc yd ye yf yg yh yi yj yk yl ym yn yo yp yq yr yt yu yv yw yx yy yz yA yB yC yD yE yF yG yH yI yJ yK yL yM yN yO yP yQ yR yS yT yU v7 (.agg (itC x)) (.slice (some ⟨w.heap.size,0,none⟩) 1 1) yY yZ za zb zc zd ze zf zg zh zi zj zk zl zm zn zo zp zq zr zs zt zu zv zw zx zy zz zA) (by kernel_rfl) ?_)
 clear hK K
 refine want_i 3 (oi := o10e_3 ps) (by kernel_rfl) (by kernel_rfl) fun K hK => ?_
 refine wp_append_any _ (Operand.tmp 107) (Operand.tmp 109) 29 rfl w1.heap.size 51 i0 _ 8 64 Tryz.underlying29 hi0 hz0 hz1 hz2 rfl (by decide) v7 xs.length (xs.flatMap itL) rfl (hI.ow.alloc _) 1 (itL x) _ rfl (src_it w x) (by unfold maxLen; omega) (by omega) (Nat.le_trans hI.be.size (by simp)) ?_
 intro vA w4 ho hg
 have hI4 := is_app x hI ho hg
 clear ho hg
 refine hK _ _ (cast_l (fr10 v0 v1 v2 v3 v4 v5 v6 v7 v8 v9 xa xb (.pointer (some ⟨D,0,none⟩)) xd xe xf xg xh xi xj xk xl xm xn xo xp xq xr xt xu xv xw xx xy xz xA xB xC xD xE xF xG xH xI xJ xK xL xM xN xO xP xQ xR xS xT xU xV xW xX xY xZ ya yb yc yd ye yf yg yh yi yj yk yl ym yn yo yp yq yr yt yu yv yw yx yy yz yA yB yC yD yE yF yG yH yI yJ yK yL yM yN yO yP yQ yR yS yT yU v7 (.agg (itC x)) (.slice (some ⟨w.heap.size,0,none⟩) 1 1) vA yZ za zb zc zd ze zf zg zh zi zj zk zl zm zn zo zp zq zr zs zt zu zv zw zx zy zz zA) (by kernel_rfl) ?_)
 clear hK K
 refine pures_i 4 1 ?fa2 ?hh2 ?_
 case fa2 => exact (fr10 v0 v1 v2 v3 v4 v5 v6 vA v8 v9 xa xb (.pointer (some ⟨D,0,none⟩)) xd xe xf xg xh xi xj xk xl xm xn xo xp xq xr xt xu xv xw xx xy xz xA xB xC xD xE xF xG xH xI xJ xK xL xM xN xO xP xQ xR xS xT xU xV xW xX xY xZ ya yb yc yd ye yf yg yh yi yj yk yl ym yn yo yp yq yr yt yu yv yw yx yy yz yA yB yC yD yE yF yG yH yI yJ yK yL yM yN yO yP yQ yR yS yT yU v7 (.agg (itC x)) (.slice (some ⟨w.heap.size,0,none⟩) 1 1) vA yZ za zb zc zd ze zf zg zh zi zj zk zl zm zn zo zp zq zr zs zt zu zv zw zx zy zz zA)
 case hh2 => kernel_rfl
 exact end_i 5 (by kernel_rfl) (hq.out _ _ hI4 _ _ _ _)
end Go.Proofs.YthcphnifnfnceaaGreatDoor

namespace Go.Proofs.YthcphnifnfnceaaGreatDoor
open Go.RowKit Go.Shelf
set_option maxRecDepth 100000
set_option maxHeartbeats 4000000

theorem rrun_any (v : Value) (l : List Ms) (hall : l.all mOk = true) (f t : Nat) (hft : f ≤ t) (htl : t ≤ l.length) (hl : l.length ≤ 4096) (w : World) (hS : RecAt 6 msL w v l) :
  Calls Tryz.prog 83 #[v,.int .i64 f,.int .i64 t] w fun e w' => e = .returned (.int .i64 (runN l f (t - f))) ∧ w' = w := by
 obtain ⟨a,cap,rfl,h2⟩ := hS.ex
 clear hS
 have hrun : Hid (∀ k,k = t - f → runN l f k = runN l f (t - f)) := fun k e => by rw [e]
 go_enter Tryz.func83,Tryz.ntmps83
 go_wp2_with fail
 go_loopw [7,8] (fun n i wr => ∃ j : Nat,f + j ≤ t ∧ i = .int .i64 (f + j : Nat) ∧ n = .int .i64 (runN l f j) ∧ wr = w) (fun _ i _ => t - (intOf i).toNat)
 case atStart => exact ⟨0,by omega,rfl,rfl,rfl⟩
 case round =>
  obtain ⟨j,hj,rfl,rfl,rfl⟩ := hrel
  by_cases hlt : f + j < t
  ·rcases h2 with h2 | ⟨b,o,rfl,hbl,hc⟩
   ·rw [h2] at htl; simp at htl; omega
   ·have hjl : f + j < l.length := by omega
    have c4 : wr.cell? ⟨b,o + (f + j) * 6 + 4,none⟩ = some (.int .i64 l[f + j].w) := hc (f + j) hjl 4 _ rfl
    have c5 : wr.cell? ⟨b,o + (f + j) * 6 + 5,none⟩ = some (.int .i64 l[f + j].q) := hc (f + j) hjl 5 _ rfl
    have hr0 := run_rng hall f j (by omega)
    have hm := all_at hall hjl
    unfold mOk at hm
    rw [decide_eq_true_eq] at hm
    have hst : Hid (runN l f (j + 1) = runN l f j + l[f + j].w + (if 0 < j then l[f + j].q else 0)) := by
     show runN l f j + (l.getD (f + j) ms0).w + (if 0 < j then (l.getD (f + j) ms0).q else 0) = _
     rw [getD_is hjl]
    obtain ⟨p,hp⟩ : ∃ p,f + j = p := ⟨_,rfl⟩
    have hp' : Hid (f + j = p) := hp
    have hpl : (p : Int) < l.length := by omega
    have hpt : (p : Int) < t := by omega
    clear hc hrun
    generalize l[f + j].w = x4 at *
    generalize l[f + j].q = x5 at *
    generalize hR : runN l f j = R at *
    obtain ⟨⟨m0,m1⟩,m2,m3⟩ := hm
    obtain ⟨r0,r1⟩ := hr0
    have hj4 : j ≤ 4096 := by omega
    rw [hp] at c4 c5 hlt hj hjl ⊢
    by_cases hj0 : j = 0
    ·have hz : Hid (runN l f (j + 1) = R + x4) := hst.out.trans (by rw [if_neg (by omega),Int.add_zero])
     have hj0' : ¬ (f : Int) < p := by omega
     have hj0'' : decide ((f : Int) < p) = false := decide_eq_false hj0'
     clear hst hj0 hR hp
     go_wp2_with fail
     go_roundw
     case rel => exact ⟨j + 1,by have := hp'.out; omega,by have := hp'.out; simp; omega,by rw [hz.out],by first | rfl | trivial⟩
     case measure => simp [intOf]; omega
    ·have hz : Hid (runN l f (j + 1) = R + x4 + x5) := hst.out.trans (by rw [if_pos (by omega)])
     have hj0' : (f : Int) < p := by omega
     clear hst hj0 hR hp
     go_wp2_with fail
     go_roundw
     case rel => exact ⟨j + 1,by have := hp'.out; omega,by have := hp'.out; simp; omega,by rw [hz.out],by first | rfl | trivial⟩
     case measure => simp [intOf]; omega
  ·have hge : ¬ ((f + j : Nat) : Int) < t := by omega
   have hv : Hid (runN l f j = runN l f (t - f)) := hrun.out j (by omega)
   clear hrun h2
   go_wp2_with fail
   go_ret
   exact ⟨by rw [← hv.out]; rfl,rfl⟩

end Go.Proofs.YthcphnifnfnceaaGreatDoor

namespace Go.Proofs.YthcphnifnfnceaaGreatDoor
open Go.RowKit Go.Shelf
set_option maxRecDepth 100000
set_option maxHeartbeats 1000000

theorem runL_at {l : List Ms} {F T i : Nat} (_hT : T ≤ l.length) (hi : i < T - F) : (runL l F T).getD i ms0 = mAt l (F + i) := by
 unfold runL mAt
 rw [List.getD_eq_getElem?_getD,List.getD_eq_getElem?_getD,List.getElem?_take_of_lt hi,List.getElem?_drop]
theorem run_sub {l : List Ms} {F T : Nat} (hT : T ≤ l.length) : ∀ k,k ≤ T - F → runN (runL l F T) 0 k = runN l F k
 | 0,_ => rfl
 | k + 1,h => by
  have ih := run_sub (F := F) hT k (by omega)
  show runN (runL l F T) 0 k + ((runL l F T).getD (0 + k) ms0).w + (if 0 < k then ((runL l F T).getD (0 + k) ms0).q else 0) = runN l F k + (l.getD (F + k) ms0).w + (if 0 < k then (l.getD (F + k) ms0).q else 0)
  rw [Nat.zero_add,runL_at hT (by omega),ih]
  rfl
theorem box_run {l : List Ms} {F T : Nat} (hFT : F < T) (hT : T ≤ l.length) (hl : l.length ≤ 4096) (hall : l.all mOk = true) : boxI (runL l F T) = ⟨1,(mAt l F).f,(mAt l (T - 1)).t,runN l F (T - F),0,0,0,false⟩ := by
 have hn := run_len (a := F) hT
 have hall' : (runL l F T).all mOk = true := by
  rw [List.all_eq_true] at hall ⊢
  intro m hm
  exact hall m (List.mem_of_mem_drop (List.mem_of_mem_take hm))
 have he : natE (runL l F T) 0 ((T - F : Nat) : Int) = 0 := by
  unfold natE
  rw [if_neg (by rw [hn]; omega),if_pos hall',if_pos (by rw [hn]; omega)]
 unfold boxI
 rw [hn,runL_at hT (by omega),runL_at hT (by omega),Nat.add_zero,show F + (T - F - 1) = T - 1 by omega]
 unfold natV
 rw [if_pos he]
 congr 1
 rw [show (Int.toNat 0) = 0 from rfl,Int.toNat_natCast,Nat.sub_zero]
 exact run_sub hT _ (Nat.le_refl _)
theorem rbox_any (v : Value) (l : List Ms) (F T : Nat) (hFT : F < T) (hT : T ≤ l.length) (hl : l.length ≤ 4096) (hall : l.all mOk = true) (w : World) (hS : RecAt 6 msL w v l) :
  Calls Tryz.prog 43 #[v,.int .i64 F,.int .i64 T] w fun e w' => e = .returned (.agg (itC (boxI (runL l F T)))) ∧ Below w.heap.size w w' := by
 rw [box_run hFT hT hl hall]
 have hc : Hid (∀ W : World,RecAt 6 msL W v l → Calls Tryz.prog 83 #[v,.int .i64 F,.int .i64 T] W fun e w' => e = .returned (.int .i64 (runN l F (T - F))) ∧ w' = W) := fun W h => rrun_any v l hall F T (by omega) hT hl W h
 obtain ⟨a,cap,rfl,-⟩ := hS.ex
 obtain ⟨g,o,rfl,hg,h0⟩ := ms_at hS (i := F) (by omega)
 obtain ⟨g',o',e,-,h1⟩ := ms_at hS (i := T - 1) (by omega)
 cases e
 have c0 := h0 0 _ rfl
 have c1 := h1 1 _ rfl
 rw [Nat.add_zero] at c0
 have hSk : Hid (RecAt 6 msL w (.slice (some ⟨g,o,none⟩) l.length cap) l) := hS
 clear h0 h1 hS
 generalize (mAt l F).f = f at *
 generalize (mAt l (T - 1)).t = t at *
 generalize runN l F (T - F) = rn at *
 have hB : Below w.heap.size w (World.drew (w.alloc (.cells (itC it0) 51))) := below_drewM ((Below.refl w.heap.size w).alloc (Nat.le_refl _) _) 1
 have hx : RX l g o l.length cap F T f t (World.drew (w.alloc (.cells (itC it0) 51))) := ⟨Nat.lt_of_lt_of_le hg hB.size,hSk.out.below hB (Nat.le_refl _),(hB.cell hg).trans c0,(hB.cell hg).trans c1⟩
 have hI : IX (World.drew (w.alloc (.cells (itC it0) 51))) w.heap.size it0 := ⟨heap_new w _⟩
 have hne : ¬ g = w.heap.size := by omega
 have hcx : Hid (∀ W : World,RX l g o l.length cap F T f t W → Calls Tryz.prog 83 #[.slice (some ⟨g,o,none⟩) l.length cap,.int .i64 F,.int .i64 T] W fun e w' => e = .returned (.int .i64 rn) ∧ w' = W) := fun W h => hc.out W h.ms
 have hF' : (F : Int) < l.length := by omega
 have hT' : (T : Int) - 1 < l.length := by omega
 have h1T : (1 : Int) ≤ T := by omega
 go_enter Tryz.func43,Tryz.ntmps43
 go_wp2_with fail
 refine rb_r1 _ (fun _ _ _ _ _ h => h) _ _ l g o l.length cap F T w.heap.size f t rn it0 _ hx hF' hT' h1T (by simp [IntKind.wrap,IntKind.bits]; omega) hcx hI hne ?_
 unfold fr43
 have hI2 : Hid (IX ((World.drew (w.alloc (.cells (itC it0) 51))).setRow w.heap.size (itC ⟨1,f,t,rn,0,0,0,false⟩)) w.heap.size ⟨1,f,t,rn,0,0,0,false⟩) := IX.set hI _
 have hb2 : Hid (Below w.heap.size w ((World.drew (w.alloc (.cells (itC it0) 51))).setRow w.heap.size (itC ⟨1,f,t,rn,0,0,0,false⟩))) := below_row hB hB.size (Nat.le_refl _) _
 clear hx hI hB hc hcx
 go_wp2_with fail
 exact bodyPost_ret (results_cell_row rfl _ _ w.heap.size 51 _ (0,0) _ rfl hI2.out.row Tryz.underlying51 rfl (info51 _)) rfl ⟨rfl,hb2.out⟩
end Go.Proofs.YthcphnifnfnceaaGreatDoor
