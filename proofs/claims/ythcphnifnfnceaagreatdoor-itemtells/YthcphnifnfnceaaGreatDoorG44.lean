/-
  What is proved here: what the document's Items answers of any paragraph.
-/
import Derived.Test.YthcphnifnfnceaaGreatDoorG30
import Derived.Test.YthcphnifnfnceaaGreatDoorG38
import Derived.Test.YthcphnifnfnceaaGreatDoorG43
namespace Go.Proofs.YthcphnifnfnceaaGreatDoor
open Go.RowKit Go.Shelf
set_option maxRecDepth 100000
set_option maxHeartbeats 2000000
def o10f_0 (ps : String) : Oper := ⟨some 29,.move (.tmp 10),3,ps,#[],none⟩
def o10f_1 (ps : String) : Oper := ⟨some 30,.move (.tmp 5),54,ps,#[],none⟩
def o10f_2 (ps : String) : Oper := ⟨some 31,.call ⟨.builtin .len,#[.tmp 30],#[54]⟩,3,ps,#[⟨1,.data⟩],none⟩
def o10f_3 (ps : String) : Oper := ⟨some 32,.binOp .lss 3 (.tmp 29) (.tmp 31) 3,4,ps,#[⟨0,.data⟩,⟨2,.data⟩],none⟩
def o10f_4 (ps : String) : Oper := ⟨some 33,.move (.tmp 32),4,ps,#[⟨3,.data⟩],none⟩
def o10f_5 (ps : String) : Oper := ⟨some 34,.move (.tmp 5),54,ps,#[⟨4,.guard⟩],some (4,true)⟩
def o10f_6 (ps : String) : Oper := ⟨some 35,.move (.tmp 10),3,ps,#[⟨4,.guard⟩],some (4,true)⟩
def o10f_7 (ps : String) : Oper := ⟨some 36,.indexAddr 54 (.tmp 34) (.tmp 35),0,ps,#[⟨5,.data⟩,⟨6,.data⟩,⟨4,.guard⟩],some (4,true)⟩
def o10f_8 (ps : String) : Oper := ⟨some 37,.load 58 (.tmp 36),58,ps,#[⟨7,.data⟩,⟨4,.guard⟩],some (4,true)⟩
def o10f_9 (ps : String) : Oper := ⟨some 38,.call ⟨.value (.func 41),#[.tmp 37],#[58]⟩,4,ps,#[⟨8,.data⟩,⟨4,.chain⟩,⟨4,.guard⟩],some (4,true)⟩
def o10f_10 (ps : String) : Oper := ⟨some 39,.pick (.tmp 33) (.tmp 38) (.const (.bool false)),4,ps,#[⟨4,.data⟩,⟨9,.data⟩],none⟩
def o10f (ps : String) : Array Oper := #[o10f_0 ps,o10f_1 ps,o10f_2 ps,o10f_3 ps,o10f_4 ps,o10f_5 ps,o10f_6 ps,o10f_7 ps,o10f_8 ps,o10f_9 ps,o10f_10 ps]

theorem ri_r12 (Q : Exit → Act → World → Prop) (id : Nat) (ps : String) {v0 v1 v2 v3 v4 v6 v7 v8 v9 xa xb xc xd xe xf xg xh xi xj xk xl xm xn xo xp xq xr xt xu xv xw xx xy xz xA xB xC xD xE xF xG xH xI xJ xK xL xM xN xO xP xQ xR xS xT xU xV xW xX xY xZ ya yb yc yd ye yf yg yh yi yj yk yl ym yn yo yp yq yr yt yu yv yw yx yy yz yA yB yC yD yE yF yG yH yI yJ yK yL yM yN yO yP yQ yR yS yT yU yV yW yX yY yZ za zb zc zd ze zf zg zh zi zj zk zl zm zn zo zp zq zr zs zt zu zv zw zx zy zz : Value} (m : Ms) (g o n cap k : Nat) (b : Bool) (w : World)
  (hk : (k : Int) < n) (hM : w.rangeAt g (o + k * 6) (msL m)) (hc : Hid (Calls Tryz.prog 41 #[.agg (msC m)] w fun e w' => e = .returned (.bool b) ∧ Below w.heap.size w w'))
  (hq : Hid (∀ W,Below w.heap.size w W → ∀ u29 u30 u31 u32 u33 u34 u35 u36 u37 u38,Q .normal (fr10 v0 v1 v2 v3 v4 (.slice (some ⟨g,o,none⟩) n cap) v6 v7 v8 v9 (.int .i64 ((k : Nat))) xa xb xc xd xe xf xg xh xi xj xk xl xm xn xo xp xq xr u29 u30 u31 u32 u33 u34 u35 u36 u37 u38 (.bool b) xE xF xG xH xI xJ xK xL xM xN xO xP xQ xR xS xT xU xV xW xX xY xZ ya yb yc yd ye yf yg yh yi yj yk yl ym yn yo yp yq yr yt yu yv yw yx yy yz yA yB yC yD yE yF yG yH yI yJ yK yL yM yN yO yP yQ yR yS yT yU yV yW yX yY yZ za zb zc zd ze zf zg zh zi zj zk zl zm zn zo zp zq zr zs zt zu zv zw zx zy zz) W)) :
  (Code.region id (o10f ps) false).wp Tryz.prog Q (fr10 v0 v1 v2 v3 v4 (.slice (some ⟨g,o,none⟩) n cap) v6 v7 v8 v9 (.int .i64 ((k : Nat))) xa xb xc xd xe xf xg xh xi xj xk xl xm xn xo xp xq xr xt xu xv xw xx xy xz xA xB xC xD xE xF xG xH xI xJ xK xL xM xN xO xP xQ xR xS xT xU xV xW xX xY xZ ya yb yc yd ye yf yg yh yi yj yk yl ym yn yo yp yq yr yt yu yv yw yx yy yz yA yB yC yD yE yF yG yH yI yJ yK yL yM yN yO yP yQ yR yS yT yU yV yW yX yY yZ za zb zc zd ze zf zg zh zi zj zk zl zm zn zo zp zq zr zs zt zu zv zw zx zy zz) w := by
 refine wp_region_list ?_
 change wpList _ _ _ (List.drop 0 (o10f ps).toList) _ _
 refine pures_i 0 2 ?fa1 ?hh1 ?_
 case fa1 => exact (fr10 v0 v1 v2 v3 v4 (.slice (some ⟨g,o,none⟩) n cap) v6 v7 v8 v9 (.int .i64 ((k : Nat))) xa xb xc xd xe xf xg xh xi xj xk xl xm xn xo xp xq xr (.int .i64 ((k : Nat))) (.slice (some ⟨g,o,none⟩) n cap) xv xw xx xy xz xA xB xC xD xE xF xG xH xI xJ xK xL xM xN xO xP xQ xR xS xT xU xV xW xX xY xZ ya yb yc yd ye yf yg yh yi yj yk yl ym yn yo yp yq yr yt yu yv yw yx yy yz yA yB yC yD yE yF yG yH yI yJ yK yL yM yN yO yP yQ yR yS yT yU yV yW yX yY yZ za zb zc zd ze zf zg zh zi zj zk zl zm zn zo zp zq zr zs zt zu zv zw zx zy zz)
 case hh1 => kernel_rfl
 refine take_i 2 (oi := o10f_2 ps) (v := (.int .i64 ((n : Nat)))) (fr10 v0 v1 v2 v3 v4 (.slice (some ⟨g,o,none⟩) n cap) v6 v7 v8 v9 (.int .i64 ((k : Nat))) xa xb xc xd xe xf xg xh xi xj xk xl xm xn xo xp xq xr (.int .i64 ((k : Nat))) (.slice (some ⟨g,o,none⟩) n cap) (.int .i64 ((n : Nat))) xw xx xy xz xA xB xC xD xE xF xG xH xI xJ xK xL xM xN xO xP xQ xR xS xT xU xV xW xX xY xZ ya yb yc yd ye yf yg yh yi yj yk yl ym yn yo yp yq yr yt yu yv yw yx yy yz yA yB yC yD yE yF yG yH yI yJ yK yL yM yN yO yP yQ yR yS yT yU yV yW yX yY yZ za zb zc zd ze zf zg zh zi zj zk zl zm zn zo zp zq zr zs zt zu zv zw zx zy zz) (by kernel_rfl) (by kernel_rfl) (by unfold fr10 o10f_2; go_simp) (by kernel_rfl) ?_
 refine take_i 3 (oi := o10f_3 ps) (v := (.bool true)) (fr10 v0 v1 v2 v3 v4 (.slice (some ⟨g,o,none⟩) n cap) v6 v7 v8 v9 (.int .i64 ((k : Nat))) xa xb xc xd xe xf xg xh xi xj xk xl xm xn xo xp xq xr (.int .i64 ((k : Nat))) (.slice (some ⟨g,o,none⟩) n cap) (.int .i64 ((n : Nat))) (.bool true) xx xy xz xA xB xC xD xE xF xG xH xI xJ xK xL xM xN xO xP xQ xR xS xT xU xV xW xX xY xZ ya yb yc yd ye yf yg yh yi yj yk yl ym yn yo yp yq yr yt yu yv yw yx yy yz yA yB yC yD yE yF yG yH yI yJ yK yL yM yN yO yP yQ yR yS yT yU yV yW yX yY yZ za zb zc zd ze zf zg zh zi zj zk zl zm zn zo zp zq zr zs zt zu zv zw zx zy zz) (by kernel_rfl) (by kernel_rfl) (by unfold fr10 o10f_3; go_simp) (by kernel_rfl) ?_
 refine pures_i 4 3 ?fa2 ?hh2 ?_
 case fa2 => exact (fr10 v0 v1 v2 v3 v4 (.slice (some ⟨g,o,none⟩) n cap) v6 v7 v8 v9 (.int .i64 ((k : Nat))) xa xb xc xd xe xf xg xh xi xj xk xl xm xn xo xp xq xr (.int .i64 ((k : Nat))) (.slice (some ⟨g,o,none⟩) n cap) (.int .i64 ((n : Nat))) (.bool true) (.bool true) (.slice (some ⟨g,o,none⟩) n cap) (.int .i64 ((k : Nat))) xA xB xC xD xE xF xG xH xI xJ xK xL xM xN xO xP xQ xR xS xT xU xV xW xX xY xZ ya yb yc yd ye yf yg yh yi yj yk yl ym yn yo yp yq yr yt yu yv yw yx yy yz yA yB yC yD yE yF yG yH yI yJ yK yL yM yN yO yP yQ yR yS yT yU yV yW yX yY yZ za zb zc zd ze zf zg zh zi zj zk zl zm zn zo zp zq zr zs zt zu zv zw zx zy zz)
 case hh2 => kernel_rfl
 refine take_i 7 (oi := o10f_7 ps) (v := (.pointer (some ⟨g,o + k * 6,none⟩))) (fr10 v0 v1 v2 v3 v4 (.slice (some ⟨g,o,none⟩) n cap) v6 v7 v8 v9 (.int .i64 ((k : Nat))) xa xb xc xd xe xf xg xh xi xj xk xl xm xn xo xp xq xr (.int .i64 ((k : Nat))) (.slice (some ⟨g,o,none⟩) n cap) (.int .i64 ((n : Nat))) (.bool true) (.bool true) (.slice (some ⟨g,o,none⟩) n cap) (.int .i64 ((k : Nat))) (.pointer (some ⟨g,o + k * 6,none⟩)) xB xC xD xE xF xG xH xI xJ xK xL xM xN xO xP xQ xR xS xT xU xV xW xX xY xZ ya yb yc yd ye yf yg yh yi yj yk yl ym yn yo yp yq yr yt yu yv yw yx yy yz yA yB yC yD yE yF yG yH yI yJ yK yL yM yN yO yP yQ yR yS yT yU yV yW yX yY yZ za zb zc zd ze zf zg zh zi zj zk zl zm zn zo zp zq zr zs zt zu zv zw zx zy zz) (by kernel_rfl) (by kernel_rfl) (by unfold fr10 o10f_7; go_simp) (by kernel_rfl) ?_
 refine want_i 8 (oi := o10f_8 ps) (by kernel_rfl) (by kernel_rfl) fun K hK => ?_
 refine wp_load_mid 58 (.tmp 36) rfl g (o + k * 6) rfl (msL m) _ hM Tryz.underlying58 rfl (info58L m) ?_
 refine hK _ _ (cast_l (fr10 v0 v1 v2 v3 v4 (.slice (some ⟨g,o,none⟩) n cap) v6 v7 v8 v9 (.int .i64 ((k : Nat))) xa xb xc xd xe xf xg xh xi xj xk xl xm xn xo xp xq xr (.int .i64 ((k : Nat))) (.slice (some ⟨g,o,none⟩) n cap) (.int .i64 ((n : Nat))) (.bool true) (.bool true) (.slice (some ⟨g,o,none⟩) n cap) (.int .i64 ((k : Nat))) (.pointer (some ⟨g,o + k * 6,none⟩)) (.agg (msC m)) xC xD xE xF xG xH xI xJ xK xL xM xN xO xP xQ xR xS xT xU xV xW xX xY xZ ya yb yc yd ye yf yg yh yi yj yk yl ym yn yo yp yq yr yt yu yv yw yx yy yz yA yB yC yD yE yF yG yH yI yJ yK yL yM yN yO yP yQ yR yS yT yU yV yW yX yY yZ za zb zc zd ze zf zg zh zi zj zk zl zm zn zo zp zq zr zs zt zu zv zw zx zy zz) (by kernel_rfl) ?_)
 clear hK K
 refine want_i 9 (oi := o10f_9 ps) (by kernel_rfl) (by kernel_rfl) fun K hK => ?_
 unfold fr10 o10f_9
 go_simp
 refine hc.out.mono ?_
 rintro e w2 ⟨rfl,hb2⟩
 refine hK _ _ (cast_l (fr10 v0 v1 v2 v3 v4 (.slice (some ⟨g,o,none⟩) n cap) v6 v7 v8 v9 (.int .i64 ((k : Nat))) xa xb xc xd xe xf xg xh xi xj xk xl xm xn xo xp xq xr (.int .i64 ((k : Nat))) (.slice (some ⟨g,o,none⟩) n cap) (.int .i64 ((n : Nat))) (.bool true) (.bool true) (.slice (some ⟨g,o,none⟩) n cap) (.int .i64 ((k : Nat))) (.pointer (some ⟨g,o + k * 6,none⟩)) (.agg (msC m)) (.bool b) xD xE xF xG xH xI xJ xK xL xM xN xO xP xQ xR xS xT xU xV xW xX xY xZ ya yb yc yd ye yf yg yh yi yj yk yl ym yn yo yp yq yr yt yu yv yw yx yy yz yA yB yC yD yE yF yG yH yI yJ yK yL yM yN yO yP yQ yR yS yT yU yV yW yX yY yZ za zb zc zd ze zf zg zh zi zj zk zl zm zn zo zp zq zr zs zt zu zv zw zx zy zz) (by kernel_rfl) ?_)
 clear hK K
 refine pures_i 10 1 ?fa3 ?hh3 ?_
 case fa3 => exact (fr10 v0 v1 v2 v3 v4 (.slice (some ⟨g,o,none⟩) n cap) v6 v7 v8 v9 (.int .i64 ((k : Nat))) xa xb xc xd xe xf xg xh xi xj xk xl xm xn xo xp xq xr (.int .i64 ((k : Nat))) (.slice (some ⟨g,o,none⟩) n cap) (.int .i64 ((n : Nat))) (.bool true) (.bool true) (.slice (some ⟨g,o,none⟩) n cap) (.int .i64 ((k : Nat))) (.pointer (some ⟨g,o + k * 6,none⟩)) (.agg (msC m)) (.bool b) (.bool b) xE xF xG xH xI xJ xK xL xM xN xO xP xQ xR xS xT xU xV xW xX xY xZ ya yb yc yd ye yf yg yh yi yj yk yl ym yn yo yp yq yr yt yu yv yw yx yy yz yA yB yC yD yE yF yG yH yI yJ yK yL yM yN yO yP yQ yR yS yT yU yV yW yX yY yZ za zb zc zd ze zf zg zh zi zj zk zl zm zn zo zp zq zr zs zt zu zv zw zx zy zz)
 case hh3 => kernel_rfl
 exact end_i 11 (by kernel_rfl) (hq.out _ hb2 _ _ _ _ _ _ _ _ _ _)
def r10_12 : Code := (Code.region 12 #[⟨some 29,.move (.tmp 10),3,"ref.go:69",#[],none⟩,⟨some 30,.move (.tmp 5),54,"ref.go:69",#[],none⟩,⟨some 31,.call ⟨.builtin .len,#[.tmp 30],#[54]⟩,3,"ref.go:69",#[⟨1,.data⟩],none⟩,⟨some 32,.binOp .lss 3 (.tmp 29) (.tmp 31) 3,4,"ref.go:69",#[⟨0,.data⟩,⟨2,.data⟩],none⟩,⟨some 33,.move (.tmp 32),4,"ref.go:69",#[⟨3,.data⟩],none⟩,⟨some 34,.move (.tmp 5),54,"ref.go:69",#[⟨4,.guard⟩],some (4,true)⟩,⟨some 35,.move (.tmp 10),3,"ref.go:69",#[⟨4,.guard⟩],some (4,true)⟩,⟨some 36,.indexAddr 54 (.tmp 34) (.tmp 35),0,"ref.go:69",#[⟨5,.data⟩,⟨6,.data⟩,⟨4,.guard⟩],some (4,true)⟩,⟨some 37,.load 58 (.tmp 36),58,"ref.go:69",#[⟨7,.data⟩,⟨4,.guard⟩],some (4,true)⟩,⟨some 38,.call ⟨.value (.func 41),#[.tmp 37],#[58]⟩,4,"ref.go:69",#[⟨8,.data⟩,⟨4,.chain⟩,⟨4,.guard⟩],some (4,true)⟩,⟨some 39,.pick (.tmp 33) (.tmp 38) (.const (.bool false)),4,"ref.go:69",#[⟨4,.data⟩,⟨9,.data⟩],none⟩] false)
def r10_16 : Code := (Code.region 16 #[⟨some 76,.move (.tmp 7),29,"ref.go:75",#[],none⟩,⟨some 77,.move (.tmp 5),54,"ref.go:75",#[],none⟩,⟨some 78,.move (.tmp 9),3,"ref.go:75",#[],none⟩,⟨some 79,.move (.tmp 10),3,"ref.go:75",#[],none⟩,⟨some 80,.call ⟨.value (.func 43),#[.tmp 77,.tmp 78,.tmp 79],#[54,3,3]⟩,51,"ref.go:75",#[⟨1,.data⟩,⟨2,.data⟩,⟨3,.data⟩],none⟩,⟨some 81,.buildSlice 29 1 #[(0,.tmp 80)],29,"ref.go:75",#[⟨4,.data⟩],none⟩,⟨some 82,.call ⟨.builtin .append,#[.tmp 76,.tmp 81],#[29,29]⟩,29,"ref.go:75",#[⟨0,.data⟩,⟨5,.data⟩,⟨4,.chain⟩],none⟩,⟨some 7,.assign (.tmp 82),29,"ref.go:75",#[⟨6,.data⟩,⟨6,.chain⟩,⟨0,.phase⟩,⟨1,.phase⟩,⟨2,.phase⟩,⟨3,.phase⟩,⟨4,.phase⟩,⟨5,.phase⟩,⟨6,.phase⟩],none⟩] false)
def r10_22 : Code := (Code.region 22 #[⟨some 107,.move (.tmp 7),29,"ref.go:82",#[],none⟩,⟨some 108,.load 51 (.tmp 12),51,"ref.go:82",#[],none⟩,⟨some 109,.buildSlice 29 1 #[(0,.tmp 108)],29,"ref.go:82",#[⟨1,.data⟩],none⟩,⟨some 110,.call ⟨.builtin .append,#[.tmp 107,.tmp 109],#[29,29]⟩,29,"ref.go:82",#[⟨0,.data⟩,⟨2,.data⟩],none⟩,⟨some 7,.assign (.tmp 110),29,"ref.go:82",#[⟨3,.data⟩,⟨3,.chain⟩,⟨0,.phase⟩,⟨1,.phase⟩,⟨2,.phase⟩,⟨3,.phase⟩],none⟩] false)
def r10_25 : Code := (Code.region 25 #[⟨some 115,.move (.tmp 7),29,"ref.go:88",#[],none⟩,⟨some 116,.move (.tmp 5),54,"ref.go:88",#[],none⟩,⟨some 117,.move (.tmp 9),3,"ref.go:88",#[],none⟩,⟨some 118,.move (.tmp 10),3,"ref.go:88",#[],none⟩,⟨some 119,.call ⟨.value (.func 43),#[.tmp 116,.tmp 117,.tmp 118],#[54,3,3]⟩,51,"ref.go:88",#[⟨1,.data⟩,⟨2,.data⟩,⟨3,.data⟩],none⟩,⟨some 120,.buildSlice 29 1 #[(0,.tmp 119)],29,"ref.go:88",#[⟨4,.data⟩],none⟩,⟨some 121,.call ⟨.builtin .append,#[.tmp 115,.tmp 120],#[29,29]⟩,29,"ref.go:88",#[⟨0,.data⟩,⟨5,.data⟩,⟨4,.chain⟩],none⟩,⟨some 7,.assign (.tmp 121),29,"ref.go:88",#[⟨6,.data⟩,⟨6,.chain⟩,⟨0,.phase⟩,⟨1,.phase⟩,⟨2,.phase⟩,⟨3,.phase⟩,⟨4,.phase⟩,⟨5,.phase⟩,⟨6,.phase⟩],none⟩] false)
def r10_29 : Code := (Code.region 29 #[⟨some 130,.move (.tmp 7),29,"ref.go:93",#[],none⟩,⟨some 131,.move (.tmp 5),54,"ref.go:93",#[],none⟩,⟨some 132,.move (.tmp 10),3,"ref.go:93",#[],none⟩,⟨some 133,.indexAddr 54 (.tmp 131) (.tmp 132),0,"ref.go:93",#[⟨1,.data⟩,⟨2,.data⟩],none⟩,⟨some 134,.load 58 (.tmp 133),58,"ref.go:93",#[⟨3,.data⟩],none⟩,⟨some 135,.call ⟨.value (.func 45),#[.tmp 134],#[58]⟩,51,"ref.go:93",#[⟨4,.data⟩],none⟩,⟨some 136,.buildSlice 29 1 #[(0,.tmp 135)],29,"ref.go:93",#[⟨5,.data⟩],none⟩,⟨some 137,.call ⟨.builtin .append,#[.tmp 130,.tmp 136],#[29,29]⟩,29,"ref.go:93",#[⟨0,.data⟩,⟨6,.data⟩,⟨5,.chain⟩],none⟩,⟨some 7,.assign (.tmp 137),29,"ref.go:93",#[⟨7,.data⟩,⟨7,.chain⟩,⟨0,.phase⟩,⟨1,.phase⟩,⟨2,.phase⟩,⟨3,.phase⟩,⟨4,.phase⟩,⟨5,.phase⟩,⟨6,.phase⟩,⟨7,.phase⟩],none⟩] false)
def RItemsEnd (a : Pa) (w : World) (e : Ending) (w' : World) : Prop :=
 (∃ v,e = .returned (.tuple #[v,.int .i64 (chkI a)]) ∧ ((chkI a ≠ 0 ∧ v = .slice none 0 0) ∨ (chkI a = 0 ∧ ItsAt w' v (itemsOf a) ∧ ∀ b o n c,v = .slice (some ⟨b,o,none⟩) n c → w.heap.size ≤ b))) ∧ Below w.heap.size w w'
theorem ritems_no (a : Pa) (hlb : a.lb.size ≤ 9223372036854775807) (hms : ∀ i (h : i < a.ms.length),(a.ms[i]).size ≤ 9223372036854775807) (h : chkI a ≠ 0) (w : World) (hA : PaAt w a) : Calls Tryz.prog 10 #[.agg (paC a)] w (RItemsEnd a w) := by
 have hB := (Below.refl w.heap.size w).alloc (Nat.le_refl _) (Obj.cells (paC a) 27)
 have hP := PB.new w a
 have hC : Hid (Calls Tryz.prog 38 #[.agg (paC a)] (w.alloc (.cells (paC a) 27)) fun e w' => e = .returned (.int .i64 (chkI a)) ∧ Below (w.alloc (.cells (paC a) 27)).heap.size (w.alloc (.cells (paC a) 27)) w') := rcheck_any a hlb hms _ (hA.below hB (Nat.le_refl _))
 have hE : Hid (∀ w',Below w.heap.size w w' → RItemsEnd a w (.returned (.tuple #[.slice none 0 0,.int .i64 (chkI a)])) w') := fun w' hb => ⟨⟨_,rfl,.inl ⟨h,rfl⟩⟩,hb⟩
 have h' : (chkI a != 0) = true := by simpa using h
 replace hB : Hid _ := hB
 clear hA h
 generalize chkI a = c at *
 generalize hw1 : w.alloc (.cells (paC a) 27) = w1 at *
 go_enter Tryz.func10,Tryz.ntmps10
 go_wp2_with (first | (refine wpList_load_row rfl 27 _ rfl w.heap.size rfl 27 _ (0,0) _ hP.row Tryz.underlying27 rfl (info34 a) ?_) | (go_at_call 38; refine hC.out.mono ?_; rintro e w2 ⟨rfl,hb2⟩; replace hb2 : Hid _ := hb2))
 go_ret2
 exact hE.out _ (hB.out.trans (hb2.out.mono hB.out.size))
theorem body_size {a : Pa} (h : GoodP a) : ∀ m ∈ bodyL a,0 ≤ m.s ∧ m.s ≤ 64 := fun m hm => by
 have hm' : m ∈ mss a := by
  unfold bodyL at hm
  split at hm
  ·exact List.mem_of_mem_drop hm
  ·exact hm
 obtain ⟨i,hi,rfl⟩ := List.mem_map.1 hm'
 exact (h.fok (List.mem_range.1 hi)).s
theorem cut_set {W : World} {D : Nat} {f u : Int} (h : IX W D ⟨3,f,f,0,0,0,50,false⟩) : IX (((W.setCell ⟨D,6,none⟩ (.int .i64 100)).setCell ⟨D,7,none⟩ (.bool true)).setCell ⟨D,3,none⟩ (.int .i64 u)) D ⟨3,f,f,u,0,0,100,true⟩ :=
 ⟨heap_setCell_same _ _ 3 _ 51 _ (heap_setCell_same _ _ 7 _ 51 _ (heap_setCell_same _ _ 6 _ 51 _ h.row))⟩
theorem IS.set1 {w1 : World} {v : Value} {xs : List It} {W : World} (h : IS w1 v xs W) {D j : Nat} (hD : w1.heap.size ≤ D) (hne : ∀ b,v.ownBlock = some b → b ≠ D) (u : Value) : IS w1 v xs (W.setCell ⟨D,j,none⟩ u) :=
 ⟨h.be.setCell (p := ⟨D,j,none⟩) hD u,ownsRow_turns h.ow (Turns.setCell (X := fun k => k = D) W (p := ⟨D,j,none⟩) rfl u) (fun g hg hx => hne g hg hx)⟩
theorem ritems_ok (a : Pa) (hlb : a.lb.size ≤ 9223372036854775807) (hms : ∀ i (h : i < a.ms.length),(a.ms[i]).size ≤ 9223372036854775807) (h : chkI a = 0) (w : World) (hA : PaAt w a) : Calls Tryz.prog 10 #[.agg (paC a)] w (RItemsEnd a w) := by
 have hG := good_of h
 have hB := (Below.refl w.heap.size w).alloc (Nat.le_refl _) (Obj.cells (paC a) 27)
 have hP := PB.new w a
 have hA0 := hA.below hB (Nat.le_refl _)
 have hC : Hid (Calls Tryz.prog 38 #[.agg (paC a)] (w.alloc (.cells (paC a) 27)) fun e w' => e = .returned (.int .i64 0) ∧ Below (w.alloc (.cells (paC a) 27)).heap.size (w.alloc (.cells (paC a) 27)) w') := by
  have := rcheck_any a hlb hms _ hA0
  rw [h] at this
  exact this
 have hbd : Hid (∀ W,Below (w.alloc (.cells (paC a) 27)).heap.size (w.alloc (.cells (paC a) 27)) W → Calls Tryz.prog 39 #[.agg (paC a)] W fun e w' => (∃ v,e = .returned v ∧ RecAt 6 msL w' v (bodyL a)) ∧ Below W.heap.size W w') := fun W hb => rbody_any a hlb hms h W (hA0.below hb (Nat.le_refl _))
 have hfit := bodyL_fit hG
 have hfew := bodyL_few hG
 have hsz := hG.size
 have hbs := body_size hG
 have hpa : Hid (∀ W v,RecAt 6 msL W v (bodyL a) → Calls Tryz.prog 40 #[.agg (paC a),v] W fun e w' => (∃ P,e = .returned (.slice (some ⟨P,0,none⟩) ((bodyL a).length + 1) ((bodyL a).length + 1)) ∧ Hy.Blk w' P (bcells (parR a.t (bodyL a) a.p.p12 (bodyL a).length)) 4) ∧ Below W.heap.size W w') := fun W v hS => parted_any a v (bodyL a) hfit hfew (by omega) W hS
 have h12 : a.p.p12 = 0 ∨ a.p.p12 = 1 := by
  have := List.all_eq_true.1 hG.pr (a.p.p12,0,1) (by simp [prB])
  have := of_decide_eq_true this
  simp only at this
  omega
 have hpd : Hid (∀ i,i < (bodyL a).length → pdAt (parR a.t (bodyL a) a.p.p12 (bodyL a).length) i = pdAt (pdOf a) i) := fun i hi => marks_same h12 hi
 have hall : (bodyL a).all mOk = true := List.all_eq_true.2 fun m hm => (hfit m hm).ok
 have hE : Hid (∀ w' v,ItsAt w' v (itsL a.t (bodyL a) (pdOf a)) → (∀ b o n c,v = .slice (some ⟨b,o,none⟩) n c → w.heap.size ≤ b) → Below w.heap.size w w' → RItemsEnd a w (.returned (.tuple #[v,.int .i64 0])) w') := fun w' v hv hbb hb => by
  refine ⟨⟨v,?_,.inr ⟨h,hv,hbb⟩⟩,hb⟩
  rw [h]
 replace hB : Hid _ := hB
 clear hA hA0 h
 generalize hw0 : w.alloc (.cells (paC a) 27) = w0 at *
 go_enter Tryz.func10,Tryz.ntmps10
 go_wp2_with (first | (refine wpList_load_row rfl 27 _ rfl w.heap.size rfl 27 _ (0,0) _ hP.row Tryz.underlying27 rfl (info34 a) ?_) | (go_at_call 38; refine hC.out.mono ?_; rintro e w2 ⟨rfl,hb2⟩; replace hP := hP.below hb2 hP.lt; replace hb2 : Hid _ := hb2) | (go_at_call 39; refine (hbd.out _ hb2.out).mono ?_; rintro e w3 ⟨⟨v5,rfl,hv5⟩,hb3⟩; replace hP := hP.below hb3 hP.lt; replace hb3 : Hid _ := hb3; replace hv5 : Hid _ := hv5) | (go_at_call 40; refine (hpa.out _ _ hv5.out).mono ?_; rintro e w4 ⟨⟨P,rfl,hbl⟩,hb4⟩; replace hP := hP.below hb4 hP.lt; replace hb4 : Hid _ := hb4; replace hbl : Hid _ := hbl))
 have hB4 : Below w.heap.size w w4 := ((hB.out.trans (hb2.out.mono hB.out.size)).trans (hb3.out.mono (Nat.le_trans hB.out.size hb2.out.size))).trans (hb4.out.mono (Nat.le_trans hB.out.size (Nat.le_trans hb2.out.size hb3.out.size)))
 have hv4 := hv5.out.below hb4.out (Nat.le_refl _)
 clear hC hbd hpa hb2 hb3 hb4 hB hv5
 obtain ⟨l,hle⟩ : ∃ l,bodyL a = l := ⟨_,rfl⟩
 obtain ⟨pd,hpe⟩ : ∃ pd,pdOf a = pd := ⟨_,rfl⟩
 have hcf : Hid (∀ k,k < l.length → (k = frN a.t l pd k ∨ k = 0) → cuB a.t l pd k = false) := fun k hk hh => by
  have := cut_first (a := a) (k := k) (by rw [hle]; exact hk) (by rw [hle,hpe]; exact hh)
  rw [hle,hpe] at this
  exact this
 rw [hle,hpe] at hpd hE
 rw [hle] at hfit hfew hbs hall hbl hv4 ⊢
 clear hle hpe
 obtain ⟨am,cm,rfl,-⟩ := hv4.ex
 have hcl : Hid (∀ k,k < l.length → ∃ g o,am = some ⟨g,o,none⟩ ∧ g < w4.heap.size ∧ ∀ W,Below w4.heap.size w4 W → ∀ i,i < l.length → W.rangeAt g (o + i * 6) (msL (mAt l i))) := fun k hk => by
  obtain ⟨g,o,e,hg,-⟩ := ms_at hv4 hk
  refine ⟨g,o,e,hg,fun W hb i hi j u hu => ?_⟩
  obtain ⟨g',o',e',-,hc⟩ := ms_at (hv4.below hb (Nat.le_refl _)) hi
  rw [e] at e'
  cases e'
  exact hc j u hu
 have hpl : Hid (∀ k,k < l.length → ∀ W,Below w4.heap.size w4 W → W.cell? ⟨P,k,none⟩ = some (.bool (pdAt pd k))) := fun k hk W hb => by
  have hb2 : Hy.Blk w4 P (bcells (parR a.t l a.p.p12 l.length)) 4 := hbl.out
  rw [hb.cell hb2.lt,hb2.cell,bcells_at (by rw [parR_len]; omega),← hpd.out k hk]
  unfold pdAt
  rw [List.getD_eq_getElem?_getD,List.getElem?_eq_getElem (by rw [parR_len]; omega)]
  rfl
 have hpr : Hid (∀ W,Below w4.heap.size w4 W → W.rangeAt w.heap.size 0 (paC a).toList) := fun W hb j u hu => by
  rw [Nat.zero_add]
  exact (hP.below hb hP.lt).cell (by simpa using hu)
 have hmem : Hid (∀ k,k < l.length → mAt l k ∈ l) := fun k hk => by rw [mAt_is hk]; exact List.getElem_mem hk
 have hrec : Hid (∀ W,Below w4.heap.size w4 W → RecAt 6 msL W (.slice am l.length cm) l) := fun W hb => hv4.below hb (Nat.le_refl _)
 have hbox : Hid (∀ W F K,Below w4.heap.size w4 W → F < K → K ≤ l.length → Calls Tryz.prog 43 #[.slice am l.length cm,.int .i64 (F : Nat),.int .i64 (K : Nat)] W fun e w' => e = .returned (.agg (itC (boxI (runL l F K)))) ∧ Below W.heap.size W w') := fun W F K hb h1 h2 => rbox_any _ l F K h1 h2 hfew hall W (hrec.out W hb)
 have hfew' : (l.length : Int) ≤ 4096 := by omega
 have hfewH : Hid (∀ k,k ≤ l.length → (ouL a.t l pd k).length ≤ 8192) := fun k hk => by
  have := ouL_len a.t l pd k
  omega
 have hstart : Hid (IS w4 (.slice none 0 0) (ouL a.t l pd 0) w4) := ⟨Below.refl _ _,World.ownsRow_nil _ _ _ _⟩
 clear hP hv4 hpd hbl
 go_wp2_with fail
 go_loopw [7,8,9,10] (fun v7 b f i wr => ∃ (k bg fr : Nat) (xs : List It),k ≤ l.length + 1 ∧ i = .int .i64 (k : Nat) ∧ b = .int .i64 (bg : Nat) ∧ f = .int .i64 (fr : Nat) ∧ Hid (IS w4 v7 xs wr ∧ ((k ≤ l.length ∧ xs = ouL a.t l pd k ∧ bg = rbN l k ∧ fr = frN a.t l pd k) ∨ (k = l.length + 1 ∧ xs = itsL a.t l pd)))) (fun _ _ _ i _ => l.length + 1 - (intOf i).toNat)
 case atStart => exact ⟨0,0,0,_,by omega,rfl,rfl,rfl,hstart.out,.inl ⟨by omega,rfl,rfl,rfl⟩⟩
 case round =>
  obtain ⟨k,bg,fr,xs,hk,rfl,rfl,rfl,hH⟩ := hrel
  obtain ⟨hI,hor⟩ := hH.out
  change Code.wp Tryz.prog (((Code.region 10 #[⟨some 23,.move (.tmp 10),3,"ref.go:68",#[],none⟩,⟨some 24,.move (.tmp 5),54,"ref.go:68",#[],none⟩,⟨some 25,.call ⟨.builtin .len,#[.tmp 24],#[54]⟩,3,"ref.go:68",#[⟨1,.data⟩],none⟩,⟨some 26,.binOp .leq 3 (.tmp 23) (.tmp 25) 3,4,"ref.go:68",#[⟨0,.data⟩,⟨2,.data⟩],none⟩] false).seq (Code.cond (Operand.tmp 26) Code.skip (Code.exit 0))).seq ((Code.block 1 ((r10_12.seq (Code.cond (Operand.tmp 39) (((Code.region 13 #[⟨some 40,.move (.tmp 10),3,"ref.go:70",#[],none⟩,⟨some 41,.move (.tmp 9),3,"ref.go:70",#[],none⟩,⟨some 42,.binOp .eql 3 (.tmp 40) (.tmp 41) 3,4,"ref.go:70",#[⟨0,.data⟩,⟨1,.data⟩],none⟩,⟨some 43,.move (.tmp 42),4,"ref.go:70",#[⟨2,.data⟩],none⟩,⟨some 44,.move (.tmp 10),3,"ref.go:70",#[⟨3,.guard⟩],some (3,false)⟩,⟨some 45,.binOp .eql 3 (.tmp 44) (.const (.int .i64 0)) 3,4,"ref.go:70",#[⟨4,.data⟩,⟨3,.guard⟩],some (3,false)⟩,⟨some 46,.pick (.tmp 43) (.const (.bool true)) (.tmp 45),4,"ref.go:70",#[⟨3,.data⟩,⟨5,.data⟩],none⟩] false).seq (Code.cond (Operand.tmp 46) (Code.exit 1) Code.skip)).seq ((Code.region 14 #[⟨some 47,.load 27 (.tmp 1),27,"ref.go:73",#[],none⟩,⟨some 48,.move (.tmp 5),54,"ref.go:73",#[],none⟩,⟨some 49,.move (.tmp 10),3,"ref.go:73",#[],none⟩,⟨some 50,.binOp .sub 3 (.tmp 49) (.const (.int .i64 1)) 3,3,"ref.go:73",#[⟨2,.data⟩],none⟩,⟨some 51,.indexAddr 54 (.tmp 48) (.tmp 50),0,"ref.go:73",#[⟨1,.data⟩,⟨3,.data⟩],none⟩,⟨some 52,.load 58 (.tmp 51),58,"ref.go:73",#[⟨4,.data⟩],none⟩,⟨some 53,.call ⟨.value (.func 42),#[.tmp 47,.tmp 52],#[27,58]⟩,4,"ref.go:73",#[⟨0,.data⟩,⟨5,.data⟩],none⟩,⟨some 54,.move (.tmp 53),4,"ref.go:73",#[⟨6,.data⟩,⟨6,.chain⟩],none⟩,⟨some 55,.load 27 (.tmp 1),27,"ref.go:73",#[⟨7,.guard⟩],some (7,true)⟩,⟨some 56,.move (.tmp 5),54,"ref.go:73",#[⟨7,.guard⟩],some (7,true)⟩,⟨some 57,.move (.tmp 10),3,"ref.go:73",#[⟨7,.guard⟩],some (7,true)⟩,⟨some 58,.indexAddr 54 (.tmp 56) (.tmp 57),0,"ref.go:73",#[⟨9,.data⟩,⟨10,.data⟩,⟨7,.guard⟩],some (7,true)⟩,⟨some 59,.load 58 (.tmp 58),58,"ref.go:73",#[⟨11,.data⟩,⟨7,.guard⟩],some (7,true)⟩,⟨some 60,.call ⟨.value (.func 42),#[.tmp 55,.tmp 59],#[27,58]⟩,4,"ref.go:73",#[⟨8,.data⟩,⟨12,.data⟩,⟨7,.chain⟩,⟨7,.guard⟩],some (7,true)⟩,⟨some 61,.unOp .not 4 (.tmp 60),4,"ref.go:73",#[⟨13,.data⟩,⟨7,.guard⟩],some (7,true)⟩,⟨some 62,.pick (.tmp 54) (.tmp 61) (.const (.bool false)),4,"ref.go:73",#[⟨7,.data⟩,⟨14,.data⟩],none⟩,⟨some 63,.move (.tmp 62),4,"ref.go:73",#[⟨15,.data⟩,⟨13,.chain⟩],none⟩,⟨some 64,.move (.tmp 10),3,"ref.go:73",#[⟨16,.guard⟩],some (16,true)⟩,⟨some 65,.binOp .sub 3 (.tmp 64) (.const (.int .i64 1)) 3,3,"ref.go:73",#[⟨17,.data⟩,⟨16,.guard⟩],some (16,true)⟩,⟨some 66,.move (.tmp 8),3,"ref.go:73",#[⟨16,.guard⟩],some (16,true)⟩,⟨some 67,.binOp .gtr 3 (.tmp 65) (.tmp 66) 3,4,"ref.go:73",#[⟨18,.data⟩,⟨19,.data⟩,⟨16,.guard⟩],some (16,true)⟩,⟨some 68,.pick (.tmp 63) (.tmp 67) (.const (.bool false)),4,"ref.go:73",#[⟨16,.data⟩,⟨20,.data⟩],none⟩,⟨some 11,.assign (.tmp 68),4,"ref.go:73",#[⟨21,.data⟩,⟨16,.chain⟩,⟨0,.phase⟩,⟨1,.phase⟩,⟨2,.phase⟩,⟨3,.phase⟩,⟨4,.phase⟩,⟨5,.phase⟩,⟨6,.phase⟩,⟨7,.phase⟩,⟨8,.phase⟩,⟨9,.phase⟩,⟨10,.phase⟩,⟨11,.phase⟩,⟨12,.phase⟩,⟨13,.phase⟩,⟨14,.phase⟩,⟨15,.phase⟩,⟨16,.phase⟩,⟨17,.phase⟩,⟨18,.phase⟩,⟨19,.phase⟩,⟨20,.phase⟩,⟨21,.phase⟩],none⟩] true).seq (((Code.region 15 #[⟨some 69,.move (.tmp 6),61,"ref.go:74",#[],none⟩,⟨some 70,.move (.tmp 10),3,"ref.go:74",#[],none⟩,⟨some 71,.indexAddr 61 (.tmp 69) (.tmp 70),0,"ref.go:74",#[⟨0,.data⟩,⟨1,.data⟩],none⟩,⟨some 72,.load 4 (.tmp 71),4,"ref.go:74",#[⟨2,.data⟩],none⟩,⟨some 73,.move (.tmp 72),4,"ref.go:74",#[⟨3,.data⟩],none⟩,⟨some 74,.move (.tmp 11),4,"ref.go:74",#[⟨4,.guard⟩],some (4,false)⟩,⟨some 75,.pick (.tmp 73) (.const (.bool true)) (.tmp 74),4,"ref.go:74",#[⟨4,.data⟩,⟨5,.data⟩],none⟩] false).seq (Code.cond (Operand.tmp 75) (r10_16.seq ((Code.region 17 #[⟨some 83,.move (.tmp 5),54,"ref.go:76",#[],none⟩,⟨some 84,.move (.tmp 10),3,"ref.go:76",#[],none⟩,⟨some 85,.indexAddr 54 (.tmp 83) (.tmp 84),0,"ref.go:76",#[⟨0,.data⟩,⟨1,.data⟩],none⟩,⟨some 86,.fieldAddr 58 (.tmp 85) 0,0,"ref.go:76",#[⟨2,.data⟩],none⟩,⟨some 87,.load 3 (.tmp 86),3,"ref.go:76",#[⟨3,.data⟩],none⟩,⟨some 88,.move (.tmp 5),54,"ref.go:76",#[],none⟩,⟨some 89,.move (.tmp 10),3,"ref.go:76",#[],none⟩,⟨some 90,.indexAddr 54 (.tmp 88) (.tmp 89),0,"ref.go:76",#[⟨5,.data⟩,⟨6,.data⟩],none⟩,⟨some 91,.fieldAddr 58 (.tmp 90) 0,0,"ref.go:76",#[⟨7,.data⟩],none⟩,⟨some 92,.load 3 (.tmp 91),3,"ref.go:76",#[⟨8,.data⟩],none⟩,⟨some 93,.build 51 #[(0,.const (.int .i64 3)),(1,.tmp 87),(2,.tmp 92),(6,.const (.int .i64 50))],51,"ref.go:76",#[⟨4,.data⟩,⟨9,.data⟩],none⟩,⟨some 12,.alloc 51,0,"ref.go:76",#[],none⟩,⟨none,.store 51 (.tmp 12) (.tmp 93),0,"ref.go:76",#[⟨11,.data⟩,⟨10,.data⟩,⟨0,.phase⟩,⟨1,.phase⟩,⟨2,.phase⟩,⟨3,.phase⟩,⟨4,.phase⟩,⟨5,.phase⟩,⟨6,.phase⟩,⟨7,.phase⟩,⟨8,.phase⟩,⟨9,.phase⟩,⟨10,.phase⟩,⟨11,.phase⟩],none⟩] true).seq (((Code.region 18 #[⟨some 94,.move (.tmp 6),61,"ref.go:77",#[],none⟩,⟨some 95,.move (.tmp 10),3,"ref.go:77",#[],none⟩,⟨some 96,.indexAddr 61 (.tmp 94) (.tmp 95),0,"ref.go:77",#[⟨0,.data⟩,⟨1,.data⟩],none⟩,⟨some 97,.load 4 (.tmp 96),4,"ref.go:77",#[⟨2,.data⟩],none⟩] false).seq (Code.cond (Operand.tmp 97) ((Code.region 19 #[⟨some 98,.fieldAddr 51 (.tmp 12) 6,0,"ref.go:78",#[],none⟩,⟨none,.store 3 (.tmp 98) (.const (.int .i64 100)),0,"ref.go:78",#[⟨0,.data⟩],none⟩] false).seq ((Code.region 20 #[⟨some 99,.fieldAddr 51 (.tmp 12) 7,0,"ref.go:79",#[],none⟩,⟨none,.store 4 (.tmp 99) (.const (.bool true)),0,"ref.go:79",#[⟨0,.data⟩],none⟩] false).seq (Code.region 21 #[⟨some 100,.move (.tmp 5),54,"ref.go:80",#[],none⟩,⟨some 101,.move (.tmp 10),3,"ref.go:80",#[],none⟩,⟨some 102,.indexAddr 54 (.tmp 100) (.tmp 101),0,"ref.go:80",#[⟨0,.data⟩,⟨1,.data⟩],none⟩,⟨some 103,.fieldAddr 58 (.tmp 102) 3,0,"ref.go:80",#[⟨2,.data⟩],none⟩,⟨some 104,.load 3 (.tmp 103),3,"ref.go:80",#[⟨3,.data⟩],none⟩,⟨some 105,.call ⟨.value (.func 44),#[.const (.int .u8 45),.tmp 104],#[5,3]⟩,3,"ref.go:80",#[⟨4,.data⟩],none⟩,⟨some 106,.fieldAddr 51 (.tmp 12) 3,0,"ref.go:80",#[⟨0,.phase⟩,⟨1,.phase⟩,⟨2,.phase⟩,⟨3,.phase⟩,⟨4,.phase⟩,⟨5,.phase⟩],none⟩,⟨none,.store 3 (.tmp 106) (.tmp 105),0,"ref.go:80",#[⟨6,.data⟩,⟨5,.data⟩,⟨5,.chain⟩,⟨0,.phase⟩,⟨1,.phase⟩,⟨2,.phase⟩,⟨3,.phase⟩,⟨4,.phase⟩,⟨5,.phase⟩],none⟩] false))) Code.skip)).seq (r10_22.seq (Code.region 23 #[⟨some 111,.move (.tmp 10),3,"ref.go:83",#[],none⟩,⟨some 9,.assign (.tmp 111),3,"ref.go:83",#[⟨0,.data⟩,⟨0,.phase⟩],none⟩] false))))) Code.skip)).seq (Code.exit 1)))) Code.skip)).seq (((Code.region 24 #[⟨some 112,.move (.tmp 9),3,"ref.go:87",#[],none⟩,⟨some 113,.move (.tmp 10),3,"ref.go:87",#[],none⟩,⟨some 114,.binOp .lss 3 (.tmp 112) (.tmp 113) 3,4,"ref.go:87",#[⟨0,.data⟩,⟨1,.data⟩],none⟩] false).seq (Code.cond (Operand.tmp 114) r10_25 Code.skip)).seq ((Code.region 26 #[⟨some 122,.move (.tmp 10),3,"ref.go:90",#[],none⟩,⟨some 123,.binOp .add 3 (.tmp 122) (.const (.int .i64 1)) 3,3,"ref.go:90",#[⟨0,.data⟩],none⟩,⟨some 9,.assign (.tmp 123),3,"ref.go:90",#[⟨1,.data⟩,⟨0,.phase⟩,⟨1,.phase⟩],none⟩] false).seq ((Code.region 27 #[⟨some 124,.move (.tmp 10),3,"ref.go:91",#[],none⟩,⟨some 125,.binOp .add 3 (.tmp 124) (.const (.int .i64 1)) 3,3,"ref.go:91",#[⟨0,.data⟩],none⟩,⟨some 8,.assign (.tmp 125),3,"ref.go:91",#[⟨1,.data⟩,⟨0,.phase⟩,⟨1,.phase⟩],none⟩] false).seq ((Code.region 28 #[⟨some 126,.move (.tmp 10),3,"ref.go:92",#[],none⟩,⟨some 127,.move (.tmp 5),54,"ref.go:92",#[],none⟩,⟨some 128,.call ⟨.builtin .len,#[.tmp 127],#[54]⟩,3,"ref.go:92",#[⟨1,.data⟩],none⟩,⟨some 129,.binOp .lss 3 (.tmp 126) (.tmp 128) 3,4,"ref.go:92",#[⟨0,.data⟩,⟨2,.data⟩],none⟩] false).seq (Code.cond (Operand.tmp 129) r10_29 Code.skip))))))).seq (Code.region 11 #[⟨some 27,.move (.tmp 10),3,"ref.go:68",#[],none⟩,⟨some 28,.binOp .add 3 (.tmp 27) (.const (.int .i64 1)) 3,3,"ref.go:68",#[⟨0,.data⟩],none⟩,⟨some 10,.assign (.tmp 28),3,"ref.go:68",#[⟨1,.data⟩,⟨0,.phase⟩,⟨1,.phase⟩],none⟩] false))) _ _ _
  by_cases hkl : k ≤ l.length
  ·have hxk : xs = ouL a.t l pd k ∧ bg = rbN l k ∧ fr = frN a.t l pd k := by
    rcases hor with ⟨-,h1⟩ | ⟨h1,-⟩
    ·exact h1
    ·omega
   obtain ⟨rfl,hbg,hfr⟩ := hxk
   have hkl' : (k : Int) ≤ l.length := by omega
   have hlen := hfewH.out k hkl
   have hfk := frN_le a.t l pd k
   rw [← hfr] at hfk
   have hbk := rbN_le l k
   rw [← hbg] at hbk
   have hou : Hid (ouL a.t l pd (k + 1) = ouL a.t l pd k ++ smL a.t l pd k) := rfl
   have hrb1 : Hid (rbN l (k + 1) = if alB (mAt l k) = true then k + 1 else rbN l k) := rfl
   have hfr1 : Hid (frN a.t l pd (k + 1) = if alB (mAt l k) = true then k + 1 else if cuB a.t l pd k = true then k else frN a.t l pd k) := rfl
   replace hI : Hid _ := hI
   by_cases hkn : k < l.length
   ·obtain ⟨g,o,hame,hg,hM⟩ := hcl.out k hkn
    subst hame
    have hkn' : (k : Int) < l.length := by omega
    have hMk := hM wr hI.out.be k hkn
    have hc41 : Hid (Calls Tryz.prog 41 #[.agg (msC (mAt l k))] wr fun e w' => e = .returned (.bool (!alB (mAt l k))) ∧ Below wr.heap.size wr w') := rrun41_any (mAt l k) wr
    replace hMk : Hid _ := hMk
    replace hM : Hid _ := hM
    cases hal : alB (mAt l k)
    ·rw [hal] at hc41
     have hnal : ¬ alB (mAt l k) = true := by rw [hal]; decide
     rw [if_neg hnal] at hrb1 hfr1
     have hkx : Hid (((k : Nat) : Int) + 1 = ((k + 1 : Nat) : Int)) := by show _ = _; omega
     by_cases hfirst : k = fr ∨ k = 0
     ·have hcu := hcf.out k hkn (by rw [← hfr]; exact hfirst)
      have hsm : Hid (smL a.t l pd k = []) := by show _ = _; unfold smL; rw [if_neg hnal,if_neg (by rw [hcu]; decide)]
      rw [if_neg (by rw [hcu]; decide)] at hfr1
      have hnew : Hid (bg = rbN l (k + 1) ∧ fr = frN a.t l pd (k + 1)) := ⟨hbg.trans hrb1.out.symm,hfr.trans hfr1.out.symm⟩
      replace hfr : Hid _ := hfr
      replace hbg : Hid _ := hbg
      clear hH hor hcl hpl hpr hmem hrec hfewH hstart hcf hal hcu hfr1 hrb1 hbox
      go_wp2_with fail
      unfold r10_12
      refine ri_r12 _ _ _ (mAt l k) g o l.length cm k (!false) _ hkn' hMk.out hc41 ?_
      intro W2 hb2
      intros
      unfold fr10
      replace hI := hI.out.step hb2
      replace hI : Hid _ := hI
      clear hMk hc41 hb2
      by_cases e1 : k = fr
      ·have e1' : ((k : Int) == (fr : Int)) = true := by rw [beq_iff_eq]; omega
       clear e1 hfirst
       go_wp2_with fail
       go_roundw
       case rel => exact ⟨k + 1,bg,fr,_,by omega,by rw [← hkx.out],rfl,rfl,hI.out,.inl ⟨by omega,by rw [hou.out,hsm.out,List.append_nil],hnew.out.1,hnew.out.2⟩⟩
       case measure => simp [intOf]; omega
      ·have e1' : ((k : Int) == (fr : Int)) = false := by rw [beq_eq_false_iff_ne]; omega
       have e2' : ((k : Int) == 0) = true := by rw [beq_iff_eq]; omega
       clear e1 hfirst
       go_wp2_with fail
       go_roundw
       case rel => exact ⟨k + 1,bg,fr,_,by omega,by rw [← hkx.out],rfl,rfl,hI.out,.inl ⟨by omega,by rw [hou.out,hsm.out,List.append_nil],hnew.out.1,hnew.out.2⟩⟩
       case measure => simp [intOf]; omega
     ·have hft : fr < k := by omega
      have hk0 : 0 < k := by omega
      have e1' : ((k : Int) == (fr : Int)) = false := by rw [beq_eq_false_iff_ne]; omega
      have e2' : ((k : Int) == 0) = false := by rw [beq_eq_false_iff_ne]; omega
      have h1k : (1 : Int) ≤ k := by omega
      have hk1 : (k : Int) - 1 < l.length := by omega
      have hw1 : IntKind.i64.wrap ((k : Int) - 1) = (k : Int) - 1 := by simp [IntKind.wrap,IntKind.bits]; omega
      have hdd : Hid ((sgB a.t (mAt l (k - 1)) && !sgB a.t (mAt l k) && decide ((bg : Int) < (k : Int) - 1)) = bsB a.t l k) := by
       have := dash_same (t := a.t) hk0 hal
       rw [← this,hbg]
       congr 1
       rw [decide_eq_decide]
       omega
      have hf1 := hfit _ (hmem.out (k - 1) (by omega))
      have hf2 := hfit _ (hmem.out k hkn)
      replace hfr : Hid _ := hfr
      replace hbg : Hid _ := hbg
      replace hw1 : Hid _ := hw1
      clear hH hor hcl hrec hfewH hstart hal hfirst
      go_wp2_with fail
      unfold r10_12
      refine ri_r12 _ _ _ (mAt l k) g o l.length cm k (!false) _ hkn' hMk.out hc41 ?_
      intro W2 hb2
      intros
      unfold fr10
      replace hI := hI.out.step hb2
      replace hI : Hid _ := hI
      clear hMk hc41 hb2
      go_wp2_with fail
      refine ri_r14 _ (fun _ _ _ _ _ h => h) _ _ a (mAt l (k - 1)) (mAt l k) w.heap.size g o l.length cm bg k (fun W => IS w4 u7 (ouL a.t l pd k) W) (sgB a.t (mAt l (k - 1))) (sgB a.t (mAt l k)) _ (hI.out.step ⟨rfl,rfl,rfl,Nat.le_refl _,fun _ _ => rfl⟩) hkn' h1k hk1 hw1.out (fun W h => hpr.out W h.be) (fun W h => hM.out W h.be (k - 1) (by omega)) (fun W h => hM.out W h.be k hkn) (fun W h => (rsign_any a _ hf1 W).mono fun e w' ⟨he,hb⟩ => ⟨he,h.step hb⟩) (fun W h => (rsign_any a _ hf2 W).mono fun e w' ⟨he,hb⟩ => ⟨he,h.step hb⟩) ?_
      intro W3 hI3
      intros
      unfold fr10
      rw [hdd.out]
      have c_p := hpl.out k hkn W3 hI3.be
      replace hI3 : Hid _ := hI3
      clear hI
      cases hp : pdAt pd k
      ·rw [hp] at c_p
       cases hd : bsB a.t l k
       ·have hcu : cuB a.t l pd k = false := by unfold cuB; rw [hp,hd]; rfl
        have hsm : Hid (smL a.t l pd k = []) := by show _ = _; unfold smL; rw [if_neg hnal,if_neg (by rw [hcu]; decide)]
        rw [if_neg (by rw [hcu]; decide)] at hfr1
        have hnew : Hid (bg = rbN l (k + 1) ∧ fr = frN a.t l pd (k + 1)) := ⟨hbg.out.trans hrb1.out.symm,hfr.out.trans hfr1.out.symm⟩
        clear hcf hfr1 hrb1 hpr hdd hcu hp hd hpl hmem hbox hM
        go_wp2_with fail
        go_roundw
        case rel => exact ⟨k + 1,bg,fr,_,by omega,by rw [← hkx.out],rfl,rfl,hI3.out,.inl ⟨by omega,by rw [hou.out,hsm.out,List.append_nil],hnew.out.1,hnew.out.2⟩⟩
        case measure => simp [intOf]; omega
       ·skip
        have hsm : Hid (smL a.t l pd k = [boxI (runL l fr k)] ++ [⟨3,(mAt l k).f,(mAt l k).f,0,0,0,50,false⟩]) := by
         show _ = _
         unfold smL
         rw [if_neg hnal,if_pos (by unfold cuB; rw [hp,hd]; first | rfl | simp),← hfr.out]
         have e : bxL l fr k = [boxI (runL l fr k)] := if_pos hft
         rw [e]
         congr 1
         unfold cutI
         rw [if_neg (by rw [hp]; decide),if_pos hd]
        have hnew : Hid (bg = rbN l (k + 1) ∧ k = frN a.t l pd (k + 1)) := ⟨hbg.out.trans hrb1.out.symm,by rw [hfr1.out,if_pos (by unfold cuB; rw [hp,hd]; first | rfl | simp)]⟩
        have hbx := hbox.out W3 fr k hI3.out.be hft hkl
        replace hbx : Hid _ := hbx
        clear hcf hfr1 hrb1 hpr hdd
        go_wp2_with fail
        unfold r10_16
        refine ri_r16 _ _ _ w4 _ (boxI (runL l fr k)) fr k _ hI3.out (by omega) hbx ?_
        intro vA W4 hI4
        intros
        unfold fr10
        have hI4d : IS w4 vA (ouL a.t l pd k ++ [boxI (runL l fr k)]) (World.drew W4) := hI4.step ⟨rfl,rfl,rfl,Nat.le_refl _,fun _ _ => rfl⟩
        have cf4 : (World.drew W4).cell? ⟨g,o + k * 6,none⟩ = some (.int .i64 (mAt l k).f) := by
         have := hM.out _ hI4d.be k hkn 0 _ rfl
         rw [Nat.add_zero] at this
         exact this
        replace hI4d : Hid _ := hI4d
        replace cf4 : Hid _ := cf4
        clear hI3 hbx hI4 c_p
        go_wp2_with fail
        refine ri_r17 _ (fun _ _ _ _ _ h => h) _ _ w4 vA _ (mAt l k).f g o l.length cm k _ ⟨hI4d.out,cf4.out,hg⟩ hkn' ?_
        intro D W5 hI5 hX hD hne
        intros
        unfold fr10
        have c_p := hpl.out k hkn W5 hI5.be
        rw [hp] at c_p
        have hlen5 : (ouL a.t l pd k ++ [boxI (runL l fr k)]).length ≤ 9000 := by rw [List.length_append]; show _ + 1 ≤ _; omega
        replace hI5 : Hid _ := hI5
        replace hX : Hid _ := hX
        go_wp2_with fail
        unfold r10_22
        refine ri_r22 _ _ _ w4 _ ⟨3,(mAt l k).f,(mAt l k).f,0,0,0,50,false⟩ D _ hI5.out hlen5 hX.out ?_
        intro vB W7 hI7
        intros
        unfold fr10
        replace hI7 : Hid _ := hI7
        clear hI5 hX hne hlen5 c_p
        go_wp2_with fail
        go_roundw
        case rel => exact ⟨k + 1,bg,k,_,by omega,by rw [← hkx.out],rfl,rfl,hI7.out,.inl ⟨by omega,by rw [hou.out,hsm.out,List.append_assoc],hnew.out.1,hnew.out.2⟩⟩
        case measure => simp [intOf]; omega
      ·rw [hp] at c_p
       generalize hdg : bsB a.t l k = d
       have hsm : Hid (smL a.t l pd k = [boxI (runL l fr k)] ++ [⟨3,(mAt l k).f,(mAt l k).f,hyW (mAt l k).s,0,0,100,true⟩]) := by
        show _ = _
        unfold smL
        rw [if_neg hnal,if_pos (by unfold cuB; rw [hp]; first | rfl | simp),← hfr.out]
        have e : bxL l fr k = [boxI (runL l fr k)] := if_pos hft
        rw [e]
        congr 1
        unfold cutI
        rw [if_pos hp]
       have hnew : Hid (bg = rbN l (k + 1) ∧ k = frN a.t l pd (k + 1)) := ⟨hbg.out.trans hrb1.out.symm,by rw [hfr1.out,if_pos (by unfold cuB; rw [hp]; first | rfl | simp)]⟩
       have hbx := hbox.out W3 fr k hI3.out.be hft hkl
       replace hbx : Hid _ := hbx
       clear hcf hfr1 hrb1 hpr hdd
       go_wp2_with fail
       unfold r10_16
       refine ri_r16 _ _ _ w4 _ (boxI (runL l fr k)) fr k _ hI3.out (by omega) hbx ?_
       intro vA W4 hI4
       intros
       unfold fr10
       have hI4d : IS w4 vA (ouL a.t l pd k ++ [boxI (runL l fr k)]) (World.drew W4) := hI4.step ⟨rfl,rfl,rfl,Nat.le_refl _,fun _ _ => rfl⟩
       have cf4 : (World.drew W4).cell? ⟨g,o + k * 6,none⟩ = some (.int .i64 (mAt l k).f) := by
        have := hM.out _ hI4d.be k hkn 0 _ rfl
        rw [Nat.add_zero] at this
        exact this
       replace hI4d : Hid _ := hI4d
       replace cf4 : Hid _ := cf4
       clear hI3 hbx hI4 c_p
       go_wp2_with fail
       refine ri_r17 _ (fun _ _ _ _ _ h => h) _ _ w4 vA _ (mAt l k).f g o l.length cm k _ ⟨hI4d.out,cf4.out,hg⟩ hkn' ?_
       intro D W5 hI5 hX hD hne
       intros
       unfold fr10
       have c_p := hpl.out k hkn W5 hI5.be
       rw [hp] at c_p
       have hlen5 : (ouL a.t l pd k ++ [boxI (runL l fr k)]).length ≤ 9000 := by rw [List.length_append]; show _ + 1 ≤ _; omega
       have hh := rbyteWidth_any 45 (mAt l k).s (by decide) (hbs _ (hmem.out k hkn)).1 (hbs _ (hmem.out k hkn)).2
       rw [← hyW_bw (hbs _ (hmem.out k hkn)).1 (hbs _ (hmem.out k hkn)).2] at hh
       have d6 : W5.cell? ⟨D,6,none⟩ = some (.int .i64 50) := by rw [Lib.cell_of_heap hX.row]; rfl
       have d7 : W5.cell? ⟨D,7,none⟩ = some (.bool false) := by rw [Lib.cell_of_heap hX.row]; rfl
       have d3 : W5.cell? ⟨D,3,none⟩ = some (.int .i64 0) := by rw [Lib.cell_of_heap hX.row]; rfl
       have e6 : W5.frozen? ⟨D,6,none⟩ = false := Lib.frozen_of_heap hX.row 6
       have e7 : W5.frozen? ⟨D,7,none⟩ = false := Lib.frozen_of_heap hX.row 7
       have e3 : W5.frozen? ⟨D,3,none⟩ = false := Lib.frozen_of_heap hX.row 3
       have cs5 : W5.cell? ⟨g,o + k * 6 + 3,none⟩ = some (.int .i64 (mAt l k).s) := hM.out _ hI5.be k hkn 3 _ rfl
       have hgD : ¬ g = D := by omega
       have hI6 := ((hI5.set1 (j := 6) hD hne (.int .i64 100)).set1 (j := 7) hD hne (.bool true)).set1 (j := 3) hD hne (.int .i64 (hyW (mAt l k).s))
       have hX6 := cut_set (u := hyW (mAt l k).s) hX
       replace hI6 : Hid _ := hI6
       replace hX6 : Hid _ := hX6
       replace hM : Hid _ := hM
       go_wp2_with (go_at_call 44; refine (hh _).mono ?_; rintro e w' ⟨rfl,hww⟩; subst w')
       unfold r10_22
       refine ri_r22 _ _ _ w4 _ ⟨3,(mAt l k).f,(mAt l k).f,hyW (mAt l k).s,0,0,100,true⟩ D _ hI6.out hlen5 hX6.out ?_
       clear hI6 hX6 d6 d7 d3 e6 e7 e3 cs5 hh
       intro vB W7 hI7
       intros
       unfold fr10
       replace hI7 : Hid _ := hI7
       clear hI5 hX hne hlen5 c_p
       go_wp2_with fail
       go_roundw
       case rel => exact ⟨k + 1,bg,k,_,by omega,by rw [← hkx.out],rfl,rfl,hI7.out,.inl ⟨by omega,by rw [hou.out,hsm.out,List.append_assoc],hnew.out.1,hnew.out.2⟩⟩
       case measure => simp [intOf]; omega
    ·rw [hal] at hc41
     have hln : Hid (∀ W,Calls Tryz.prog 45 #[.agg (msC (mAt l k))] W fun e w' => e = .returned (.agg (itC (loneI (mAt l k)))) ∧ Below W.heap.size W w') := fun W => lone_any (mAt l k) hal (mOk_w (hfit _ (hmem.out k hkn)).ok) (hbs _ (hmem.out k hkn)) W
     have hsm : Hid (smL a.t l pd k = bxL l fr k ++ [loneI (mAt l k)]) := by show _ = _; unfold smL; rw [if_pos hal,hfr]
     rw [if_pos hal] at hrb1 hfr1
     replace hfr : Hid _ := hfr
     replace hbg : Hid _ := hbg
     clear hH hor hcl hpl hpr hmem hrec hfewH hstart hcf hal
     go_wp2_with fail
     unfold r10_12
     refine ri_r12 _ _ _ (mAt l k) g o l.length cm k (!true) _ hkn' hMk.out hc41 ?_
     intro W2 hb2
     intros
     unfold fr10
     replace hI := hI.out.step hb2
     replace hI : Hid _ := hI
     clear hMk hc41 hb2
     have hkx : ((k : Nat) : Int) + 1 = ((k + 1 : Nat) : Int) := by omega
     replace hkx : Hid _ := hkx
     by_cases hft : fr < k
     ·have hft' : (fr : Int) < k := by omega
      have hbx := hbox.out W2 fr k hI.out.be hft hkl
      have hbx2 : Hid (bxL l fr k = [boxI (runL l fr k)]) := if_pos hft
      replace hbx : Hid _ := hbx
      go_wp2_with fail
      unfold r10_25
      refine ri_r25 _ _ _ w4 _ (boxI (runL l fr k)) fr k _ hI.out (by omega) hbx ?_
      intro vA W3 hI3
      intros
      unfold fr10
      have hMk3 := hM.out W3 hI3.be k hkn
      replace hMk3 : Hid _ := hMk3
      replace hI3 : Hid _ := hI3
      clear hI hbx
      go_wp2_with fail
      unfold r10_29
      refine ri_r29 _ _ _ w4 _ (loneI (mAt l k)) (mAt l k) g o l.length cm k _ hI3.out (by simp; omega) hkn' hMk3.out (hln.out _) ?_
      intro vB W4 hI4
      intros
      unfold fr10
      replace hI4 : Hid _ := hI4
      clear hI3 hMk3
      go_wp2_with fail
      go_roundw
      case rel => exact ⟨k + 1,k + 1,k + 1,_,by omega,by rw [← hkx.out],by rw [← hkx.out],by rw [← hkx.out],hI4.out,.inl ⟨by omega,by rw [hou.out,hsm.out,hbx2.out,List.append_assoc],hrb1.out.symm,hfr1.out.symm⟩⟩
      case measure => simp [intOf]; omega
     ·have hft' : ¬ (fr : Int) < k := by omega
      have hbx2 : Hid (bxL l fr k = []) := if_neg hft
      have hMk3 := hM.out W2 hI.out.be k hkn
      replace hMk3 : Hid _ := hMk3
      go_wp2_with fail
      unfold r10_29
      refine ri_r29 _ _ _ w4 _ (loneI (mAt l k)) (mAt l k) g o l.length cm k _ hI.out (by omega) hkn' hMk3.out (hln.out _) ?_
      intro vB W4 hI4
      intros
      unfold fr10
      replace hI4 : Hid _ := hI4
      clear hI hMk3
      go_wp2_with fail
      go_roundw
      case rel => exact ⟨k + 1,k + 1,k + 1,_,by omega,by rw [← hkx.out],by rw [← hkx.out],by rw [← hkx.out],hI4.out,.inl ⟨by omega,by rw [hou.out,hsm.out,hbx2.out,List.nil_append],hrb1.out.symm,hfr1.out.symm⟩⟩
      case measure => simp [intOf]; omega
   ·obtain rfl : k = l.length := by omega
    have hge : ¬ (l.length : Int) < l.length := by omega
    have hits : Hid (itsL a.t l pd = ouL a.t l pd l.length ++ bxL l fr l.length) := by show _ = _; rw [hfr]; rfl
    have hkx : Hid (((l.length : Nat) : Int) + 1 = ((l.length + 1 : Nat) : Int)) := by show _ = _; omega
    replace hfr : Hid _ := hfr
    replace hbg : Hid _ := hbg
    clear hH hor hcl hpl hpr hmem hrec hfewH hstart hcf hou hrb1 hfr1
    go_wp2_with fail
    unfold r10_12
    by_cases hft : fr < l.length
    ·have hft' : (fr : Int) < l.length := by omega
     have hbx := hbox.out wr fr l.length hI.out.be hft (Nat.le_refl _)
     have hbx2 : Hid (bxL l fr l.length = [boxI (runL l fr l.length)]) := if_pos hft
     replace hbx : Hid _ := hbx
     go_wp2_with fail
     unfold r10_25
     refine ri_r25 _ _ _ w4 _ (boxI (runL l fr l.length)) fr l.length _ hI.out (by omega) hbx ?_
     intro vA W3 hI3
     intros
     unfold fr10
     replace hI3 : Hid _ := hI3
     clear hI hbx
     go_wp2_with fail
     go_roundw
     case rel => exact ⟨l.length + 1,l.length + 1,l.length + 1,_,by omega,by rw [← hkx.out],by rw [← hkx.out],by rw [← hkx.out],hI3.out,.inr ⟨rfl,by rw [hits.out,hbx2.out]⟩⟩
     case measure => simp [intOf]
    ·have hft' : ¬ (fr : Int) < l.length := by omega
     have hbx2 : Hid (bxL l fr l.length = []) := if_neg hft
     go_wp2_with fail
     go_roundw
     case rel => exact ⟨l.length + 1,l.length + 1,l.length + 1,_,by omega,by rw [← hkx.out],by rw [← hkx.out],by rw [← hkx.out],hI.out,.inr ⟨rfl,by rw [hits.out,hbx2.out,List.append_nil]⟩⟩
     case measure => simp [intOf]
  ·obtain rfl : k = l.length + 1 := by omega
   have hxs : xs = itsL a.t l pd := by
    rcases hor with ⟨h1,-⟩ | ⟨-,h1⟩
    ·omega
    ·exact h1
   subst hxs
   have hge : ¬ ((l.length + 1 : Nat) : Int) ≤ l.length := by omega
   have hv := rec_of_row itL_len rfl hI.ow
   have hBe := hB4.trans (hI.be.mono hB4.size)
   have hbb : Hid (∀ b o n c,u7 = .slice (some ⟨b,o,none⟩) n c → w.heap.size ≤ b) := fun b o n c e => Nat.le_trans hB4.size (hI.ow.lt b (by rw [e]; rfl)).1
   replace hv : Hid _ := hv
   replace hBe : Hid _ := hBe
   clear hH hI hor hcl hpl hpr hmem hrec hbox hfewH hstart hcf
   go_wp2_with fail
   go_ret2
   exact hE.out _ _ hv.out hbb.out hBe.out
theorem ritems_any (a : Pa) (hlb : a.lb.size ≤ 9223372036854775807) (hms : ∀ i (h : i < a.ms.length),(a.ms[i]).size ≤ 9223372036854775807) (w : World) (hA : PaAt w a) : Calls Tryz.prog 10 #[.agg (paC a)] w (RItemsEnd a w) := by
 by_cases h : chkI a = 0
 ·exact ritems_ok a hlb hms h w hA
 ·exact ritems_no a hlb hms h w hA
end Go.Proofs.YthcphnifnfnceaaGreatDoor
