/-
  What is proved here: the region of Lay that breaks items.
  What is proved here: what Lay of para answers.
-/
import Derived.Test.YtlgcnbomfhmjiaaGreatDoorS21
namespace Go.Proofs.YtlgcnbomfhmjiaaGreatDoor
open Go.RowKit Go.Shelf
set_option maxRecDepth 100000
set_option maxHeartbeats 1000000

structure L5S (X Y : Nat) (a : Pa) (iR : Sl) (L : List It) (iS : List Sl) (v u : Value) (W : World) : Prop where
 pb : PB W X a
 s9 : W.heap[Y]? = some (.cells (slL iR).toArray 53 (0,0))
 hl : ItsAt W v L
 hs : SlsAt W u iS
theorem L5S.below {X Y : Nat} {a : Pa} {iR : Sl} {L : List It} {iS : List Sl} {v u : Value} {W W' : World} (h : L5S X Y a iR L iS v u W) (hb : Below W.heap.size W W') : L5S X Y a iR L iS v u W' :=
 ⟨h.pb.below hb h.pb.lt,(hb.block _ (Array.getElem?_eq_some_iff.1 h.s9).1).trans h.s9,h.hl.below hb (Nat.le_refl _),h.hs.below hb (Nat.le_refl _)⟩
def opp11_5_0 (ps : String) : Oper := ⟨some 34,.load 36 (.tmp 3),36,ps,#[],none⟩
def opp11_5_1 (ps : String) : Oper := ⟨some 35,.move (.tmp 11),68,ps,#[],none⟩
def opp11_5_2 (ps : String) : Oper := ⟨some 36,.call ⟨.value (.func 36),#[.tmp 34,.tmp 35],#[36,68]⟩,73,ps,#[⟨0,.data⟩,⟨1,.data⟩],none⟩
def opp11_5_3 (ps : String) : Oper := ⟨some 37,.move (.tmp 11),68,ps,#[],none⟩
def opp11_5_4 (ps : String) : Oper := ⟨some 38,.move (.tmp 8),65,ps,#[],none⟩
def opp11_5_5 (ps : String) : Oper := ⟨some 39,.load 53 (.tmp 9),53,ps,#[],none⟩
def opp11_5_6 (ps : String) : Oper := ⟨some 40,.call ⟨.value (.tmp 36),#[.tmp 37,.tmp 38,.tmp 39],#[68,65,53]⟩,71,ps,#[⟨2,.data⟩,⟨3,.data⟩,⟨4,.data⟩,⟨5,.data⟩,⟨2,.chain⟩],none⟩
def opp11_5_7 (ps : String) : Oper := ⟨some 33,.move (.tmp 40),71,ps,#[⟨6,.data⟩],none⟩
def opp11_5_8 (ps : String) : Oper := ⟨some 41,.extract (.tmp 33) 0,70,ps,#[⟨7,.data⟩],none⟩
def opp11_5_9 (ps : String) : Oper := ⟨some 42,.extract (.tmp 33) 1,4,ps,#[⟨7,.data⟩,⟨10,.gcOnly .lateStores⟩],none⟩
def opp11_5_10 (ps : String) : Oper := ⟨some 12,.assign (.tmp 41),70,ps,#[⟨8,.data⟩,⟨6,.chain⟩,⟨0,.phase⟩,⟨1,.phase⟩,⟨2,.phase⟩,⟨3,.phase⟩,⟨4,.phase⟩,⟨5,.phase⟩,⟨6,.phase⟩,⟨7,.phase⟩,⟨8,.phase⟩,⟨9,.textOnly .lateStores⟩],none⟩
def opp11_5_11 (ps : String) : Oper := ⟨some 13,.assign (.tmp 42),4,ps,#[⟨9,.data⟩,⟨10,.chain⟩,⟨0,.phase⟩,⟨1,.phase⟩,⟨2,.phase⟩,⟨3,.phase⟩,⟨4,.phase⟩,⟨5,.phase⟩,⟨6,.phase⟩,⟨7,.phase⟩,⟨8,.phase⟩,⟨9,.phase⟩,⟨10,.phase⟩],none⟩
def opp11_5 (ps : String) : Array Oper := #[opp11_5_0 ps,opp11_5_1 ps,opp11_5_2 ps,opp11_5_3 ps,opp11_5_4 ps,opp11_5_5 ps,opp11_5_6 ps,opp11_5_7 ps,opp11_5_8 ps,opp11_5_9 ps,opp11_5_10 ps,opp11_5_11 ps]
theorem ly_call66 (X Y : Nat) (a : Pa) (iR : Sl) (L : List It) (iS : List Sl) (pl : List Pc) (lo : Bool) (a1 a2 : Option Addr) (c1 c2 : Nat) (hN : chN a L = 55) (hc : ∀ w,ItsAt w (.slice a1 L.length c1) L → SlsAt w (.slice a2 iS.length c2) iS → Calls Tryz.prog 55 #[(.slice a1 L.length c1),(.slice a2 iS.length c2),.agg (slL iR).toArray] w (BkEnd pl lo w)) : ∀ (ps : String) (fr : Act) (w : World) (K : Act → World → Prop) (Q : Exit → Act → World → Prop),fr.eval (.tmp 36) = .func (.func (chN a L)) #[] #[] → fr.eval (.tmp 37) = (.slice a1 L.length c1) → fr.eval (.tmp 38) = (.slice a2 iS.length c2) → fr.eval (.tmp 39) = .agg (slL iR).toArray → (L5S X Y a iR L iS (.slice a1 L.length c1) (.slice a2 iS.length c2)) w → (∀ a3 c3 w',PcsAt w' (.slice a3 pl.length c3) pl → Below w.heap.size w w' → K (fr.put (some 40) (.tuple #[.slice a3 pl.length c3,.bool lo])) w') → (opp11_5_6 ps).wp Tryz.prog fr w K Q := by
 intro ps fr w K Q h1 h2 h3 h4 hS hK
 have hc := hc w hS.hl hS.hs
 rw [hN] at h1
 unfold opp11_5_6
 unfold Oper.wp execOp
 simp only [resolve,List.map_toArray,List.map_cons,List.map_nil,h1,h2,h3,h4]
 go_simp
 refine hc.mono ?_
 rintro e w' ⟨⟨u,rfl,hu⟩,hb⟩
 obtain ⟨a3,c3,rfl,-⟩ := hu.ex
 exact hK a3 c3 w' hu hb
theorem ly_call67 (X Y : Nat) (a : Pa) (iR : Sl) (L : List It) (iS : List Sl) (pl : List Pc) (lo : Bool) (a1 a2 : Option Addr) (c1 c2 : Nat) (hN : chN a L = 56) (hc : ∀ w,ItsAt w (.slice a1 L.length c1) L → SlsAt w (.slice a2 iS.length c2) iS → Calls Tryz.prog 56 #[(.slice a1 L.length c1),(.slice a2 iS.length c2),.agg (slL iR).toArray] w (BkEnd pl lo w)) : ∀ (ps : String) (fr : Act) (w : World) (K : Act → World → Prop) (Q : Exit → Act → World → Prop),fr.eval (.tmp 36) = .func (.func (chN a L)) #[] #[] → fr.eval (.tmp 37) = (.slice a1 L.length c1) → fr.eval (.tmp 38) = (.slice a2 iS.length c2) → fr.eval (.tmp 39) = .agg (slL iR).toArray → (L5S X Y a iR L iS (.slice a1 L.length c1) (.slice a2 iS.length c2)) w → (∀ a3 c3 w',PcsAt w' (.slice a3 pl.length c3) pl → Below w.heap.size w w' → K (fr.put (some 40) (.tuple #[.slice a3 pl.length c3,.bool lo])) w') → (opp11_5_6 ps).wp Tryz.prog fr w K Q := by
 intro ps fr w K Q h1 h2 h3 h4 hS hK
 have hc := hc w hS.hl hS.hs
 rw [hN] at h1
 unfold opp11_5_6
 unfold Oper.wp execOp
 simp only [resolve,List.map_toArray,List.map_cons,List.map_nil,h1,h2,h3,h4]
 go_simp
 refine hc.mono ?_
 rintro e w' ⟨⟨u,rfl,hu⟩,hb⟩
 obtain ⟨a3,c3,rfl,-⟩ := hu.ex
 exact hK a3 c3 w' hu hb

theorem ly_r5 (Q : Exit → Act → World → Prop) (hQ : ∀ c x (n : Nat) v w,Q (.panic c) (x.put (some n) v) w → Q (.panic c) x w) (id : Nat) (ps : String) {v0 v1 v2 v4 v5 v6 v7 xa xb xc xd xe xf xg xh xi xj xk xl xm xn xo xp xq xr xt xu xv xw xx xy xz xA xB xC xD xE xF xG xH xI xJ xK xL xM xN xO xP xQ xR xS xT xU xV xW xX xY xZ ya yb yc yd ye yf yg yh yi yj yk yl ym yn yo yp yq yr yt yu yv yw yx yy yz : Value} (z : World) (X Y : Nat) (a : Pa) (iR : Sl) (L : List It) (iS : List Sl) (pl : List Pc) (lo : Bool) (a1 a2 : Option Addr) (c1 c2 : Nat) (w : World) (hS : L5S X Y a iR L iS (.slice a1 L.length c1) (.slice a2 iS.length c2) (World.drew w))
  (hz0 : Below z.heap.size z (World.drew w)) (hl8 : L.length ≤ 9223372036854775807) (hcall : ∀ (ps : String) (fr : Act) (w : World) (K : Act → World → Prop) (Q : Exit → Act → World → Prop),fr.eval (.tmp 36) = .func (.func (chN a L)) #[] #[] → fr.eval (.tmp 37) = (.slice a1 L.length c1) → fr.eval (.tmp 38) = (.slice a2 iS.length c2) → fr.eval (.tmp 39) = .agg (slL iR).toArray → (L5S X Y a iR L iS (.slice a1 L.length c1) (.slice a2 iS.length c2)) w → (∀ a3 c3 w',PcsAt w' (.slice a3 pl.length c3) pl → Below w.heap.size w w' → K (fr.put (some 40) (.tuple #[.slice a3 pl.length c3,.bool lo])) w') → (opp11_5_6 ps).wp Tryz.prog fr w K Q)
  (hq : ∀ a3 c3 w',Below z.heap.size z w' → (L5S X Y a iR L iS (.slice a1 L.length c1) (.slice a2 iS.length c2)) w' → PcsAt w' (.slice a3 pl.length c3) pl → Q .normal (frp11 v0 v1 v2 (.pointer (some ⟨X,0,none⟩)) v4 v5 v6 v7 (.slice a2 iS.length c2) (.pointer (some ⟨Y,0,none⟩)) xa (.slice a1 L.length c1) (.slice a3 pl.length c3) (.bool lo) xd xe xf xg xh xi xj xk xl xm xn xo xp xq xr xt xu xv xw (.tuple #[.slice a3 pl.length c3,.bool lo]) (.agg (paC a)) (.slice a1 L.length c1) (.func (.func (chN a L)) #[] #[]) (.slice a1 L.length c1) (.slice a2 iS.length c2) (.agg (slL iR).toArray) (.tuple #[.slice a3 pl.length c3,.bool lo]) (.slice a3 pl.length c3) (.bool lo) xH xI xJ xK xL xM xN xO xP xQ xR xS xT xU xV xW xX xY xZ ya yb yc yd ye yf yg yh yi yj yk yl ym yn yo yp yq yr yt yu yv yw yx yy yz) w') :
  (Code.region id (opp11_5 ps) true).wp Tryz.prog Q (frp11 v0 v1 v2 (.pointer (some ⟨X,0,none⟩)) v4 v5 v6 v7 (.slice a2 iS.length c2) (.pointer (some ⟨Y,0,none⟩)) xa (.slice a1 L.length c1) xb xc xd xe xf xg xh xi xj xk xl xm xn xo xp xq xr xt xu xv xw xx xy xz xA xB xC xD xE xF xG xH xI xJ xK xL xM xN xO xP xQ xR xS xT xU xV xW xX xY xZ ya yb yc yd ye yf yg yh yi yj yk yl ym yn yo yp yq yr yt yu yv yw yx yy yz) w := by
 refine wp_region_held (S := L5S X Y a iR L iS (.slice a1 L.length c1) (.slice a2 iS.length c2)) (by kernel_rfl) ?_
 change wpAnyH _ _ _ _ _ 12 _ _ (World.drew w)
 refine take_h (i := 0) (oi := opp11_5_0 ps) (fuel := 11) (v := (.agg (paC a))) (frp11 v0 v1 v2 (.pointer (some ⟨X,0,none⟩)) v4 v5 v6 v7 (.slice a2 iS.length c2) (.pointer (some ⟨Y,0,none⟩)) xa (.slice a1 L.length c1) xb xc xd xe xf xg xh xi xj xk xl xm xn xo xp xq xr xt xu xv xw xx (.agg (paC a)) xz xA xB xC xD xE xF xG xH xI xJ xK xL xM xN xO xP xQ xR xS xT xU xV xW xX xY xZ ya yb yc yd ye yf yg yh yi yj yk yl ym yn yo yp yq yr yt yu yv yw yx yy yz) (by kernel_rfl) (by kernel_rfl) (by kernel_rfl) (by kernel_rfl) (fun c x w => hQ c x _ _ w) (by kernel_rfl) (fun w hS => load_pa hS.pb rfl rfl) (by kernel_rfl) hS ?_
 refine take_h (i := 1) (oi := opp11_5_1 ps) (fuel := 10) (v := (.slice a1 L.length c1)) (frp11 v0 v1 v2 (.pointer (some ⟨X,0,none⟩)) v4 v5 v6 v7 (.slice a2 iS.length c2) (.pointer (some ⟨Y,0,none⟩)) xa (.slice a1 L.length c1) xb xc xd xe xf xg xh xi xj xk xl xm xn xo xp xq xr xt xu xv xw xx (.agg (paC a)) (.slice a1 L.length c1) xA xB xC xD xE xF xG xH xI xJ xK xL xM xN xO xP xQ xR xS xT xU xV xW xX xY xZ ya yb yc yd ye yf yg yh yi yj yk yl ym yn yo yp yq yr yt yu yv yw yx yy yz) (by kernel_rfl) (by kernel_rfl) (by kernel_rfl) (by kernel_rfl) (fun c x w => hQ c x _ _ w) (by kernel_rfl) (fun w _ => by kernel_rfl) (by kernel_rfl) hS ?_
 refine take_h (i := 3) (oi := opp11_5_3 ps) (fuel := 9) (v := (.slice a1 L.length c1)) (frp11 v0 v1 v2 (.pointer (some ⟨X,0,none⟩)) v4 v5 v6 v7 (.slice a2 iS.length c2) (.pointer (some ⟨Y,0,none⟩)) xa (.slice a1 L.length c1) xb xc xd xe xf xg xh xi xj xk xl xm xn xo xp xq xr xt xu xv xw xx (.agg (paC a)) (.slice a1 L.length c1) xA (.slice a1 L.length c1) xC xD xE xF xG xH xI xJ xK xL xM xN xO xP xQ xR xS xT xU xV xW xX xY xZ ya yb yc yd ye yf yg yh yi yj yk yl ym yn yo yp yq yr yt yu yv yw yx yy yz) (by kernel_rfl) (by kernel_rfl) (by kernel_rfl) (by kernel_rfl) (fun c x w => hQ c x _ _ w) (by kernel_rfl) (fun w _ => by kernel_rfl) (by kernel_rfl) hS ?_
 refine take_h (i := 4) (oi := opp11_5_4 ps) (fuel := 8) (v := (.slice a2 iS.length c2)) (frp11 v0 v1 v2 (.pointer (some ⟨X,0,none⟩)) v4 v5 v6 v7 (.slice a2 iS.length c2) (.pointer (some ⟨Y,0,none⟩)) xa (.slice a1 L.length c1) xb xc xd xe xf xg xh xi xj xk xl xm xn xo xp xq xr xt xu xv xw xx (.agg (paC a)) (.slice a1 L.length c1) xA (.slice a1 L.length c1) (.slice a2 iS.length c2) xD xE xF xG xH xI xJ xK xL xM xN xO xP xQ xR xS xT xU xV xW xX xY xZ ya yb yc yd ye yf yg yh yi yj yk yl ym yn yo yp yq yr yt yu yv yw yx yy yz) (by kernel_rfl) (by kernel_rfl) (by kernel_rfl) (by kernel_rfl) (fun c x w => hQ c x _ _ w) (by kernel_rfl) (fun w _ => by kernel_rfl) (by kernel_rfl) hS ?_
 refine take_h (i := 5) (oi := opp11_5_5 ps) (fuel := 7) (v := (.agg (slL iR).toArray)) (frp11 v0 v1 v2 (.pointer (some ⟨X,0,none⟩)) v4 v5 v6 v7 (.slice a2 iS.length c2) (.pointer (some ⟨Y,0,none⟩)) xa (.slice a1 L.length c1) xb xc xd xe xf xg xh xi xj xk xl xm xn xo xp xq xr xt xu xv xw xx (.agg (paC a)) (.slice a1 L.length c1) xA (.slice a1 L.length c1) (.slice a2 iS.length c2) (.agg (slL iR).toArray) xE xF xG xH xI xJ xK xL xM xN xO xP xQ xR xS xT xU xV xW xX xY xZ ya yb yc yd ye yf yg yh yi yj yk yl ym yn yo yp yq yr yt yu yv yw yx yy yz) (by kernel_rfl) (by kernel_rfl) (by kernel_rfl) (by kernel_rfl) (fun c x w => hQ c x _ _ w) (by kernel_rfl) (fun w hS => load_r30 hS.s9 rfl rfl) (by kernel_rfl) hS ?_
 refine want_h (i := 2) (oi := opp11_5_2 ps) (fuel := 6) (by kernel_rfl) (by kernel_rfl) (by kernel_rfl) fun K hK => ?_
 unfold frp11 opp11_5_2
 go_simp
 refine (choose31 a (.slice a1 L.length c1) L hl8 _ hS.hl).mono ?_
 rintro e w1 ⟨rfl,hb1⟩
 have hS1 : L5S X Y a iR L iS (.slice a1 L.length c1) (.slice a2 iS.length c2) w1 := hS.below hb1
 have hz1 := hz0.trans (hb1.mono hz0.size)
 refine hK _ _ hS1 (cast_h (frp11 v0 v1 v2 (.pointer (some ⟨X,0,none⟩)) v4 v5 v6 v7 (.slice a2 iS.length c2) (.pointer (some ⟨Y,0,none⟩)) xa (.slice a1 L.length c1) xb xc xd xe xf xg xh xi xj xk xl xm xn xo xp xq xr xt xu xv xw xx (.agg (paC a)) (.slice a1 L.length c1) (.func (.func (chN a L)) #[] #[]) (.slice a1 L.length c1) (.slice a2 iS.length c2) (.agg (slL iR).toArray) xE xF xG xH xI xJ xK xL xM xN xO xP xQ xR xS xT xU xV xW xX xY xZ ya yb yc yd ye yf yg yh yi yj yk yl ym yn yo yp yq yr yt yu yv yw yx yy yz) (by kernel_rfl) ?_)
 clear hK K
 refine want_h (i := 6) (oi := opp11_5_6 ps) (fuel := 5) (by kernel_rfl) (by kernel_rfl) (by kernel_rfl) fun K hK => ?_
 refine hcall ps _ _ _ _ rfl rfl rfl rfl hS1 fun a3 c3 w2 hu hb2 => ?_
 have hS2 : L5S X Y a iR L iS (.slice a1 L.length c1) (.slice a2 iS.length c2) w2 := hS1.below hb2
 have hz2 := hz1.trans (hb2.mono hz1.size)
 refine hK _ _ hS2 (cast_h (frp11 v0 v1 v2 (.pointer (some ⟨X,0,none⟩)) v4 v5 v6 v7 (.slice a2 iS.length c2) (.pointer (some ⟨Y,0,none⟩)) xa (.slice a1 L.length c1) xb xc xd xe xf xg xh xi xj xk xl xm xn xo xp xq xr xt xu xv xw xx (.agg (paC a)) (.slice a1 L.length c1) (.func (.func (chN a L)) #[] #[]) (.slice a1 L.length c1) (.slice a2 iS.length c2) (.agg (slL iR).toArray) (.tuple #[.slice a3 pl.length c3,.bool lo]) xF xG xH xI xJ xK xL xM xN xO xP xQ xR xS xT xU xV xW xX xY xZ ya yb yc yd ye yf yg yh yi yj yk yl ym yn yo yp yq yr yt yu yv yw yx yy yz) (by kernel_rfl) ?_)
 clear hK K
 refine take_h (i := 7) (oi := opp11_5_7 ps) (fuel := 4) (v := (.tuple #[.slice a3 pl.length c3,.bool lo])) (frp11 v0 v1 v2 (.pointer (some ⟨X,0,none⟩)) v4 v5 v6 v7 (.slice a2 iS.length c2) (.pointer (some ⟨Y,0,none⟩)) xa (.slice a1 L.length c1) xb xc xd xe xf xg xh xi xj xk xl xm xn xo xp xq xr xt xu xv xw (.tuple #[.slice a3 pl.length c3,.bool lo]) (.agg (paC a)) (.slice a1 L.length c1) (.func (.func (chN a L)) #[] #[]) (.slice a1 L.length c1) (.slice a2 iS.length c2) (.agg (slL iR).toArray) (.tuple #[.slice a3 pl.length c3,.bool lo]) xF xG xH xI xJ xK xL xM xN xO xP xQ xR xS xT xU xV xW xX xY xZ ya yb yc yd ye yf yg yh yi yj yk yl ym yn yo yp yq yr yt yu yv yw yx yy yz) (by kernel_rfl) (by kernel_rfl) (by kernel_rfl) (by kernel_rfl) (fun c x w => hQ c x _ _ w) (by kernel_rfl) (fun w _ => by kernel_rfl) (by kernel_rfl) hS2 ?_
 refine take_h (i := 8) (oi := opp11_5_8 ps) (fuel := 3) (v := (.slice a3 pl.length c3)) (frp11 v0 v1 v2 (.pointer (some ⟨X,0,none⟩)) v4 v5 v6 v7 (.slice a2 iS.length c2) (.pointer (some ⟨Y,0,none⟩)) xa (.slice a1 L.length c1) xb xc xd xe xf xg xh xi xj xk xl xm xn xo xp xq xr xt xu xv xw (.tuple #[.slice a3 pl.length c3,.bool lo]) (.agg (paC a)) (.slice a1 L.length c1) (.func (.func (chN a L)) #[] #[]) (.slice a1 L.length c1) (.slice a2 iS.length c2) (.agg (slL iR).toArray) (.tuple #[.slice a3 pl.length c3,.bool lo]) (.slice a3 pl.length c3) xG xH xI xJ xK xL xM xN xO xP xQ xR xS xT xU xV xW xX xY xZ ya yb yc yd ye yf yg yh yi yj yk yl ym yn yo yp yq yr yt yu yv yw yx yy yz) (by kernel_rfl) (by kernel_rfl) (by kernel_rfl) (by kernel_rfl) (fun c x w => hQ c x _ _ w) (by kernel_rfl) (fun w _ => by kernel_rfl) (by kernel_rfl) hS2 ?_
 refine take_h (i := 9) (oi := opp11_5_9 ps) (fuel := 2) (v := (.bool lo)) (frp11 v0 v1 v2 (.pointer (some ⟨X,0,none⟩)) v4 v5 v6 v7 (.slice a2 iS.length c2) (.pointer (some ⟨Y,0,none⟩)) xa (.slice a1 L.length c1) xb xc xd xe xf xg xh xi xj xk xl xm xn xo xp xq xr xt xu xv xw (.tuple #[.slice a3 pl.length c3,.bool lo]) (.agg (paC a)) (.slice a1 L.length c1) (.func (.func (chN a L)) #[] #[]) (.slice a1 L.length c1) (.slice a2 iS.length c2) (.agg (slL iR).toArray) (.tuple #[.slice a3 pl.length c3,.bool lo]) (.slice a3 pl.length c3) (.bool lo) xH xI xJ xK xL xM xN xO xP xQ xR xS xT xU xV xW xX xY xZ ya yb yc yd ye yf yg yh yi yj yk yl ym yn yo yp yq yr yt yu yv yw yx yy yz) (by kernel_rfl) (by kernel_rfl) (by kernel_rfl) (by kernel_rfl) (fun c x w => hQ c x _ _ w) (by kernel_rfl) (fun w _ => by kernel_rfl) (by kernel_rfl) hS2 ?_
 refine take_h (i := 10) (oi := opp11_5_10 ps) (fuel := 1) (v := (.slice a3 pl.length c3)) (frp11 v0 v1 v2 (.pointer (some ⟨X,0,none⟩)) v4 v5 v6 v7 (.slice a2 iS.length c2) (.pointer (some ⟨Y,0,none⟩)) xa (.slice a1 L.length c1) (.slice a3 pl.length c3) xc xd xe xf xg xh xi xj xk xl xm xn xo xp xq xr xt xu xv xw (.tuple #[.slice a3 pl.length c3,.bool lo]) (.agg (paC a)) (.slice a1 L.length c1) (.func (.func (chN a L)) #[] #[]) (.slice a1 L.length c1) (.slice a2 iS.length c2) (.agg (slL iR).toArray) (.tuple #[.slice a3 pl.length c3,.bool lo]) (.slice a3 pl.length c3) (.bool lo) xH xI xJ xK xL xM xN xO xP xQ xR xS xT xU xV xW xX xY xZ ya yb yc yd ye yf yg yh yi yj yk yl ym yn yo yp yq yr yt yu yv yw yx yy yz) (by kernel_rfl) (by kernel_rfl) (by kernel_rfl) (by kernel_rfl) (fun c x w => hQ c x _ _ w) (by kernel_rfl) (fun w _ => by kernel_rfl) (by kernel_rfl) hS2 ?_
 refine take_h (i := 11) (oi := opp11_5_11 ps) (fuel := 0) (v := (.bool lo)) (frp11 v0 v1 v2 (.pointer (some ⟨X,0,none⟩)) v4 v5 v6 v7 (.slice a2 iS.length c2) (.pointer (some ⟨Y,0,none⟩)) xa (.slice a1 L.length c1) (.slice a3 pl.length c3) (.bool lo) xd xe xf xg xh xi xj xk xl xm xn xo xp xq xr xt xu xv xw (.tuple #[.slice a3 pl.length c3,.bool lo]) (.agg (paC a)) (.slice a1 L.length c1) (.func (.func (chN a L)) #[] #[]) (.slice a1 L.length c1) (.slice a2 iS.length c2) (.agg (slL iR).toArray) (.tuple #[.slice a3 pl.length c3,.bool lo]) (.slice a3 pl.length c3) (.bool lo) xH xI xJ xK xL xM xN xO xP xQ xR xS xT xU xV xW xX xY xZ ya yb yc yd ye yf yg yh yi yj yk yl ym yn yo yp yq yr yt yu yv yw yx yy yz) (by kernel_rfl) (by kernel_rfl) (by kernel_rfl) (by kernel_rfl) (fun c x w => hQ c x _ _ w) (by kernel_rfl) (fun w _ => by kernel_rfl) (by kernel_rfl) hS2 ?_
 exact wpAnyH_done (by kernel_rfl) (hq _ _ _ hz2 hS2 hu) _
end Go.Proofs.YtlgcnbomfhmjiaaGreatDoor

namespace Go.Proofs.YtlgcnbomfhmjiaaGreatDoor
open Go.RowKit Go.Shelf
set_option maxRecDepth 100000
set_option maxHeartbeats 8000000

def frI (a : Pa) (L : List It) (pl : List Pc) (k : Nat) : Int := if k = 0 then 0 else edI a L (pl.drop k)
def pcA (pl : List Pc) (k : Nat) : Pc := pl.getD k (pc0 0)
def lyY (a : Pa) (L : List It) (iS : List Sl) (iR : Sl) (pl : List Pc) (lo : Bool) (k : Nat) : Lx :=
 ⟨frI a L pl k,edI a L (pl.drop (k + 1)),(slN iS iR k).x,(slN iS iR k).w,(pcA pl k).nt,(pcA pl k).hy,fgI L (pcA pl k) (slN iS iR k) lo⟩
theorem pcA_is {pl : List Pc} {k : Nat} (h : k < pl.length) : pcA pl k = pl[k] := by
 unfold pcA; rw [List.getD_eq_getElem?_getD,List.getElem?_eq_getElem h]; rfl
def rest11 : Code := (((Code.region 8 #[⟨some 46,.move (.tmp 12),70,"para.go:47",#[],none⟩,⟨some 47,.call ⟨.builtin .len,#[.tmp 46],#[70]⟩,3,"para.go:47",#[⟨0,.data⟩],none⟩,⟨some 48,.move (.const (.int .i64 0)),3,"para.go:47",#[],none⟩] false).seq (Code.block 0 ((Code.region 9 #[⟨some 49,.binOp .lss 3 (.tmp 48) (.tmp 47) 3,0,"para.go:47",#[],none⟩] false).seq ((Code.cond (Operand.tmp 49) Code.skip (Code.exit 0)).seq ((Code.block 1 ((Code.region 10 #[⟨some 50,.move (.tmp 48),3,"para.go:47",#[],none⟩,⟨some 51,.indexAddr 70 (.tmp 46) (.tmp 48),0,"para.go:47",#[],none⟩,⟨some 52,.load 76 (.tmp 51),76,"para.go:47",#[⟨1,.data⟩],none⟩,⟨some 17,.alloc 76,0,"para.go:47",#[],none⟩,⟨some 16,.assign (.tmp 50),3,"para.go:47",#[⟨0,.data⟩,⟨0,.phase⟩,⟨1,.phase⟩,⟨2,.phase⟩,⟨3,.phase⟩],none⟩,⟨none,.store 76 (.tmp 17) (.tmp 52),0,"para.go:47",#[⟨3,.data⟩,⟨2,.data⟩,⟨4,.chain⟩,⟨0,.phase⟩,⟨1,.phase⟩,⟨2,.phase⟩,⟨3,.phase⟩,⟨4,.phase⟩],none⟩] false).seq ((Code.region 11 #[⟨some 53,.move (.tmp 8),65,"para.go:48",#[],none⟩,⟨some 54,.load 53 (.tmp 9),53,"para.go:48",#[],none⟩,⟨some 55,.move (.tmp 16),3,"para.go:48",#[],none⟩,⟨some 56,.call ⟨.value (.func 37),#[.tmp 53,.tmp 54,.tmp 55],#[65,53,3]⟩,53,"para.go:48",#[⟨0,.data⟩,⟨1,.data⟩,⟨2,.data⟩],none⟩,⟨some 18,.alloc 53,0,"para.go:48",#[],none⟩,⟨none,.store 53 (.tmp 18) (.tmp 56),0,"para.go:48",#[⟨4,.data⟩,⟨3,.data⟩,⟨3,.chain⟩,⟨0,.phase⟩,⟨1,.phase⟩,⟨2,.phase⟩,⟨3,.phase⟩,⟨4,.phase⟩],none⟩] false).seq ((Code.region 12 #[⟨some 57,.load 36 (.tmp 3),36,"para.go:49",#[],none⟩,⟨some 58,.move (.tmp 11),68,"para.go:49",#[],none⟩,⟨some 59,.move (.tmp 12),70,"para.go:49",#[],none⟩,⟨some 60,.move (.tmp 16),3,"para.go:49",#[],none⟩,⟨some 61,.binOp .add 3 (.tmp 60) (.const (.int .i64 1)) 3,3,"para.go:49",#[⟨3,.data⟩],none⟩,⟨some 62,.slice 70 (.tmp 59) (some (.tmp 61)) none none,70,"para.go:49",#[⟨2,.data⟩,⟨4,.data⟩],none⟩,⟨some 63,.call ⟨.value (.func 38),#[.tmp 57,.tmp 58,.tmp 62],#[36,68,70]⟩,3,"para.go:49",#[⟨0,.data⟩,⟨1,.data⟩,⟨5,.data⟩],none⟩,⟨some 19,.assign (.tmp 63),3,"para.go:49",#[⟨6,.data⟩,⟨6,.chain⟩,⟨0,.phase⟩,⟨1,.phase⟩,⟨2,.phase⟩,⟨3,.phase⟩,⟨4,.phase⟩,⟨5,.phase⟩,⟨6,.phase⟩],none⟩] true).seq ((Code.region 13 #[⟨some 64,.move (.tmp 14),23,"para.go:50",#[],none⟩,⟨some 65,.move (.tmp 16),3,"para.go:50",#[],none⟩,⟨some 66,.move (.tmp 15),3,"para.go:50",#[],none⟩,⟨some 67,.move (.tmp 19),3,"para.go:50",#[],none⟩,⟨some 68,.fieldAddr 53 (.tmp 18) 0,0,"para.go:50",#[],none⟩,⟨some 69,.load 3 (.tmp 68),3,"para.go:50",#[⟨4,.data⟩],none⟩,⟨some 70,.fieldAddr 53 (.tmp 18) 1,0,"para.go:50",#[],none⟩,⟨some 71,.load 3 (.tmp 70),3,"para.go:50",#[⟨6,.data⟩],none⟩,⟨some 72,.fieldAddr 76 (.tmp 17) 4,0,"para.go:50",#[],none⟩,⟨some 73,.load 3 (.tmp 72),3,"para.go:50",#[⟨8,.data⟩],none⟩,⟨some 74,.fieldAddr 76 (.tmp 17) 3,0,"para.go:50",#[],none⟩,⟨some 75,.load 4 (.tmp 74),4,"para.go:50",#[⟨10,.data⟩],none⟩,⟨some 76,.move (.tmp 11),68,"para.go:50",#[],none⟩,⟨some 77,.load 76 (.tmp 17),76,"para.go:50",#[],none⟩,⟨some 78,.load 53 (.tmp 18),53,"para.go:50",#[],none⟩,⟨some 79,.call ⟨.value (.func 40),#[.tmp 76,.tmp 77,.tmp 78],#[68,76,53]⟩,4,"para.go:50",#[⟨12,.data⟩,⟨13,.data⟩,⟨14,.data⟩],none⟩,⟨some 80,.move (.tmp 13),4,"para.go:50",#[],none⟩,⟨some 81,.call ⟨.value (.func 39),#[.tmp 79,.tmp 80],#[4,4]⟩,3,"para.go:50",#[⟨15,.data⟩,⟨16,.data⟩,⟨15,.chain⟩],none⟩,⟨some 82,.build 47 #[(0,.tmp 66),(1,.tmp 67),(2,.tmp 69),(3,.tmp 71),(4,.tmp 73),(5,.tmp 75),(6,.tmp 81)],47,"para.go:50",#[⟨2,.data⟩,⟨3,.data⟩,⟨5,.data⟩,⟨7,.data⟩,⟨9,.data⟩,⟨11,.data⟩,⟨17,.data⟩],none⟩,⟨some 83,.indexAddr 23 (.tmp 64) (.tmp 65),0,"para.go:50",#[⟨0,.data⟩,⟨1,.data⟩,⟨0,.phase⟩,⟨1,.phase⟩,⟨2,.phase⟩,⟨3,.phase⟩,⟨4,.phase⟩,⟨5,.phase⟩,⟨6,.phase⟩,⟨7,.phase⟩,⟨8,.phase⟩,⟨9,.phase⟩,⟨10,.phase⟩,⟨11,.phase⟩,⟨12,.phase⟩,⟨13,.phase⟩,⟨14,.phase⟩,⟨15,.phase⟩,⟨16,.phase⟩,⟨17,.phase⟩,⟨18,.phase⟩],none⟩,⟨none,.store 47 (.tmp 83) (.tmp 82),0,"para.go:50",#[⟨19,.data⟩,⟨18,.data⟩,⟨17,.chain⟩,⟨0,.phase⟩,⟨1,.phase⟩,⟨2,.phase⟩,⟨3,.phase⟩,⟨4,.phase⟩,⟨5,.phase⟩,⟨6,.phase⟩,⟨7,.phase⟩,⟨8,.phase⟩,⟨9,.phase⟩,⟨10,.phase⟩,⟨11,.phase⟩,⟨12,.phase⟩,⟨13,.phase⟩,⟨14,.phase⟩,⟨15,.phase⟩,⟨16,.phase⟩,⟨17,.phase⟩,⟨18,.phase⟩],none⟩] true).seq (Code.region 14 #[⟨some 84,.move (.tmp 19),3,"para.go:51",#[],none⟩,⟨some 15,.assign (.tmp 84),3,"para.go:51",#[⟨0,.data⟩,⟨0,.phase⟩],none⟩] false)))))).seq (Code.region 15 #[⟨some 85,.binOp .add 3 (.tmp 48) (.const (.int .i64 1)) 3,3,"para.go:47",#[],none⟩,⟨some 48,.move (.tmp 85),3,"para.go:47",#[⟨0,.data⟩],none⟩] false)))).loop)).seq ((Code.region 16 #[⟨some 86,.move (.tmp 14),23,"para.go:53",#[],none⟩,⟨some 6,.assign (.tmp 86),23,"para.go:53",#[⟨0,.data⟩,⟨0,.phase⟩],none⟩,⟨some 7,.assign (.const (.int .i64 0)),24,"para.go:53",#[⟨1,.chain⟩,⟨0,.phase⟩,⟨1,.phase⟩],none⟩] false).seq Code.ret))
theorem ly_rest (RR : Ending → World → Prop) (z w0 w : World) (X Y : Nat) (a : Pa) (L : List It) (iS : List Sl) (iR : Sl) (pl : List Pc) (lo : Bool) (a1 a2 a3 : Option Addr) (c1 c2 c3 : Nat)
  (hck : ckL L = 0) (hcs : ckS iS iR = 0) (hN : pl.length ≤ 9000) (hps : ∀ k (h : k < pl.length),pl[k].a ≤ pl[k].b ∧ pl[k].b ≤ L.length ∧ (0 < k → pl[k].a < L.length))
  (hz : Below z.heap.size z w0) (hpb : PB w0 X a) (h9 : w0.heap[Y]? = some (.cells (slL iR).toArray 53 (0,0))) (hl0 : ItsAt w0 (.slice a1 L.length c1) L) (hs0 : SlsAt w0 (.slice a2 iS.length c2) iS) (hp0 : PcsAt w0 (.slice a3 pl.length c3) pl)
  (hw : Below w0.heap.size w0 w) (hr : RB 7 lxL w w0.heap.size (glK lx0 (lyY a L iS iR pl lo) pl.length 0)) {v0 v1 v2 v4 v5 v6 v7 xa xc xd xe xf xg xh xi xj xk xl xm xn xo xp xq xr xt xu xv xw xx xy xz xA xB xC xD xE xF xG xH xI xJ xK xL xM xN xO xP xQ xR xS xT xU xV xW xX xY xZ ya yb yc yd ye yf yg yh yi yj yk yl ym yn yo yp yq yr yt yu yv yw : Value}
  (hR : Hid (∀ W,Below z.heap.size z W → LxsAt W (.slice (some ⟨w0.heap.size,0,none⟩) pl.length pl.length) (glL (lyY a L iS iR pl lo) pl.length) → RR (.returned (.tuple #[.slice (some ⟨w0.heap.size,0,none⟩) pl.length pl.length,.int .i64 0])) W)) :
  rest11.wp Tryz.prog (bodyPost Tryz.prog Tryz.f25 RR) { tmps := #[v0,v1,v2,.pointer (some ⟨X,0,none⟩),v4,v5,v6,v7,.slice a2 iS.length c2,.pointer (some ⟨Y,0,none⟩),xa,.slice a1 L.length c1,.slice a3 pl.length c3,.bool lo,.slice (some ⟨w0.heap.size,0,none⟩) pl.length pl.length,.int .i64 0,xc,xd,xe,xf,xg,xh,xi,xj,xk,xl,xm,xn,xo,xp,xq,xr,xt,xu,xv,xw,xx,xy,xz,xA,xB,xC,xD,xE,xF,xG,xH,xI,xJ,xK,xL,xM,xN,xO,xP,xQ,xR,xS,xT,xU,xV,xW,xX,xY,xZ,ya,yb,yc,yd,ye,yf,yg,yh,yi,yj,yk,yl,ym,yn,yo,yp,yq,yr,yt,yu,yv,yw],defers := [] } w := by
 have hI0 : Hid (Below w0.heap.size w0 w ∧ RB 7 lxL w w0.heap.size (glK lx0 (lyY a L iS iR pl lo) pl.length 0)) := ⟨hw,hr⟩
 have hbase : Hid (PB w0 X a ∧ ItsAt w0 (.slice a1 L.length c1) L ∧ PcsAt w0 (.slice a3 pl.length c3) pl) := ⟨hpb,hl0,hp0⟩
 have hsl : Hid (∀ k W,Below w0.heap.size w0 W → Calls Tryz.prog 37 #[(.slice a2 iS.length c2),.agg #[.int .i64 iR.x,.int .i64 iR.w],.int .i64 (k : Nat)] W fun e w' => e = .returned (.agg #[.int .i64 (slN iS iR k).x,.int .i64 (slN iS iR k).w]) ∧ Below W.heap.size W w') := fun k W hW => sls_slot (by have := ckS_few hcs; omega) (hs0.below hW (Nat.le_refl _))
 have hok : Hid (∀ k,okS (slN iS iR k) = true) := slN_ok hcs
 have hckh : Hid (ckL L = 0) := hck
 have hzh : Hid (Below z.heap.size z w0) := hz
 have hpsh : Hid (∀ k (h : k < pl.length),pl[k].a ≤ pl[k].b ∧ pl[k].b ≤ L.length ∧ (0 < k → pl[k].a < L.length)) := hps
 have h9h : Hid (∀ W,Below w0.heap.size w0 W → W.heap[Y]? = some (.cells #[.int .i64 iR.x,.int .i64 iR.w] 53 (0,0))) := fun W hW => (hW.block _ (Array.getElem?_eq_some_iff.1 h9).1).trans h9
 have hNh : Hid (pl.length ≤ 9000) := hN
 have hf0 : frI a L pl 0 = 0 := rfl
 clear hck hcs hps hz hpb h9 hl0 hs0 hp0 hw hr hN
 unfold rest11
 go_wp2_with fail
 go_loopw [15,48] (fun xb xJ wr => ∃ k : Nat,k ≤ pl.length ∧ xb = .int .i64 (frI a L pl k) ∧ xJ = .int .i64 k ∧ Hid (Below w0.heap.size w0 wr ∧ RB 7 lxL wr w0.heap.size (glK lx0 (lyY a L iS iR pl lo) pl.length k))) (fun _ xJ _ => pl.length - (intOf xJ).toNat)
 case atStart => exact ⟨0,by omega,by rw [hf0],rfl,hI0⟩
 case round =>
  obtain ⟨k,hk,rfl,rfl,hI⟩ := hrel
  clear hI0 hf0
  by_cases hlt : k < pl.length
  ·have hlt' : (k : Int) < (pl.length : Int) := by omega
   obtain ⟨b,o,rfl,hbl,hrg⟩ := pcs_range (hbase.out.2.2.below hI.out.1 (Nat.le_refl _)) hlt
   have hpk := hpsh.out k hlt
   obtain ⟨p,hpe⟩ : ∃ p,p = pl[k] := ⟨_,rfl⟩
   rw [← hpe] at hrg hpk
   obtain ⟨fm,hfm⟩ : ∃ fm,fm = frI a L pl k := ⟨_,rfl⟩
   obtain ⟨s,hse⟩ : ∃ s,s = slN iS iR k := ⟨_,rfl⟩
   have hsk := hsl.out k
   rw [← hse] at hsk
   rw [← hfm]
   have hYh : Hid (lyY a L iS iR pl lo k = ⟨fm,edI a L (pl.drop (k + 1)),s.x,s.w,p.nt,p.hy,fgI L p s lo⟩) := by
    show _ = _
    unfold lyY
    rw [pcA_is hlt,← hpe,← hse,← hfm]
   have hoks : Hid (okS s = true) := by rw [hse]; exact hok.out k
   have hto : frI a L pl (k + 1) = edI a L (pl.drop (k + 1)) := if_neg (by omega)
   have htoh : Hid (frI a L pl (k + 1) = edI a L (pl.drop (k + 1))) := hto
   have hnext : Hid (∀ p' ∈ (pl.drop (k + 1)).head?,p'.a < L.length) := fun p' hp' => by
    by_cases h2 : k + 1 < pl.length
    ·have e : (pl.drop (k + 1)).head? = some pl[k + 1] := by rw [List.head?_drop,List.getElem?_eq_getElem h2]
     rw [e] at hp'
     cases hp'
     exact (hpsh.out (k + 1) h2).2.2 (by omega)
    ·rw [List.drop_eq_nil_of_le (by omega)] at hp'
     cases hp'
   have hskh : Hid (∀ W,Below w0.heap.size w0 W → Calls Tryz.prog 37 #[(.slice a2 iS.length c2),.agg #[.int .i64 iR.x,.int .i64 iR.w],.int .i64 (k : Nat)] W fun e w' => e = .returned (.agg #[.int .i64 s.x,.int .i64 s.w]) ∧ Below W.heap.size W w') := hsk
   have hpkh : Hid (p.a ≤ p.b ∧ p.b ≤ L.length) := ⟨hpk.1,hpk.2.1⟩
   have hsz : Hid (w0.heap.size < wr.heap.size) := hI.out.2.lt
   have hz0 : (wr.alloc (.cells #[.int .i64 0,.int .i64 0,.bool false,.bool false,.int .i64 0] 76)).heap[wr.heap.size]? = some (.cells #[.int .i64 0,.int .i64 0,.bool false,.bool false,.int .i64 0] 76 (0,0)) := World.alloc_heap_new wr _
   have hI5 : Hid (Below w0.heap.size w0 ((wr.alloc (.cells #[.int .i64 0,.int .i64 0,.bool false,.bool false,.int .i64 0] 76)).setRow wr.heap.size (pcL p).toArray) ∧ RB 7 lxL ((wr.alloc (.cells #[.int .i64 0,.int .i64 0,.bool false,.bool false,.int .i64 0] 76)).setRow wr.heap.size (pcL p).toArray) w0.heap.size (glK lx0 (lyY a L iS iR pl lo) pl.length k)) := by
    have hT := Turns.setRow (X := fun j => j = wr.heap.size) (wr.alloc (.cells #[.int .i64 0,.int .i64 0,.bool false,.bool false,.int .i64 0] 76)) rfl (pcL p).toArray
    have hB5 : Below wr.heap.size wr ((wr.alloc (.cells #[.int .i64 0,.int .i64 0,.bool false,.bool false,.int .i64 0] 76)).setRow wr.heap.size (pcL p).toArray) := ((Below.refl wr.heap.size wr).alloc (Nat.le_refl _) _).trans (hT.below (by simp) (fun j hj => by omega))
    exact ⟨hI.out.1.trans (hB5.mono hI.out.1.size),hI.out.2.below hB5 hI.out.2.lt⟩
   clear hsl hok hpsh hR hpk hpe hse hfm hto hsk hI
   go_wp2_with (first | (refine wpList_load_mid rfl 76 _ rfl b (o + k * 5) rfl (pcL p) _ hrg Tryz.underlying76 rfl (info41 p) ?_) | (refine wpList_store_row rfl 76 _ _ rfl wr.heap.size (pcL p).toArray rfl rfl 76 _ hz0 (info41 p) rfl (pcL_all p) ?_; have hz1 : ((wr.alloc (.cells #[.int .i64 0,.int .i64 0,.bool false,.bool false,.int .i64 0] 76)).setRow wr.heap.size (pcL p).toArray).heap[wr.heap.size]? = some (.cells (pcL p).toArray 76 (0,0)) := setRow_heap _ _ _ _ _ _ hz0; clear hz0 hrg; generalize (wr.alloc (.cells #[.int .i64 0,.int .i64 0,.bool false,.bool false,.int .i64 0] 76)).setRow wr.heap.size (pcL p).toArray = w5 at *; generalize wr.heap.size = g17 at *; have x5 := h9h.out w5 hI5.out.1) | (refine wpList_load_row rfl 53 _ rfl Y rfl 53 _ (0,0) _ x5 Tryz.underlying53 rfl (info25 _ _) ?_) | (go_at_call 37; refine (hskh.out w5 hI5.out.1).mono ?_; rintro e w6 ⟨rfl,hb6⟩; have hb6h : Hid (Below w5.heap.size w5 w6) := hb6; have hz1h : Hid (w5.heap[g17]? = some (.cells (pcL p).toArray 76 (0,0))) := hz1; clear hb6 hz1 x5 h9h hskh))
   have hB7 : Below w5.heap.size w5 (w6.alloc (.cells #[.int .i64 s.x,.int .i64 s.w] 53)) := hb6h.out.alloc hb6h.out.size _
   have hI7 : Hid (Below w0.heap.size w0 (w6.alloc (.cells #[.int .i64 s.x,.int .i64 s.w] 53)) ∧ RB 7 lxL (w6.alloc (.cells #[.int .i64 s.x,.int .i64 s.w] 53)) w0.heap.size (glK lx0 (lyY a L iS iR pl lo) pl.length k)) := ⟨hI5.out.1.trans (hB7.mono hI5.out.1.size),hI5.out.2.below hB7 hI5.out.2.lt⟩
   have hP7 : (w6.alloc (.cells #[.int .i64 s.x,.int .i64 s.w] 53)).heap[g17]? = some (.cells (pcL p).toArray 76 (0,0)) := (hB7.block _ (Array.getElem?_eq_some_iff.1 hz1h.out).1).trans hz1h.out
   have hQ7 : (w6.alloc (.cells #[.int .i64 s.x,.int .i64 s.w] 53)).heap[w6.heap.size]? = some (.cells (slL s).toArray 53 (0,0)) := World.alloc_heap_new w6 _
   have hgz : w0.heap.size < w6.heap.size := by have := hb6h.out.size; have := (Array.getElem?_eq_some_iff.1 hz1h.out).1; have := hsz.out; omega
   clear hB7 hb6h hI5 hz1h
   generalize w6.alloc (.cells #[.int .i64 s.x,.int .i64 s.w] 53) = w7 at *
   generalize w6.heap.size = g18 at *
   have hc3 := hbase.out.2.2.le _ _ _ rfl
   obtain ⟨a4,hsl4,h4⟩ := low59 (some ⟨b,o,none⟩) pl.length c3 (k + 1) (by omega) hc3
   have hS7 : LrS X w0.heap.size g17 g18 a L pl p s (glK lx0 (lyY a L iS iR pl lo) pl.length k) (.slice a1 L.length c1) (.slice (some ⟨b,o,none⟩) pl.length c3) w7 := ⟨hbase.out.1.below hI7.out.1 hbase.out.1.lt,hbase.out.2.1.below hI7.out.1 (Nat.le_refl _),hbase.out.2.2.below hI7.out.1 (Nat.le_refl _),hP7,hQ7,hI7.out.2⟩
   refine ly_r12 _ (fun _ _ _ _ _ h => h) _ _ w0 X w0.heap.size g17 g18 k a L pl p s (glK lx0 (lyY a L iS iR pl lo) pl.length k) a1 (some ⟨b,o,none⟩) a4 c1 c3 w7 (hS7.below (below_drew w7)) hI7.out.1.drew (by omega) (by have := hNh.out; omega) hnext.out (fun W => hsl4 W) h4 ?_
   intro w8 hz8 hS8
   have hz8h : Hid (Below w0.heap.size w0 w8) := hz8
   have hS8h : Hid (LrS X w0.heap.size g17 g18 a L pl p s (glK lx0 (lyY a L iS iR pl lo) pl.length k) (.slice a1 L.length c1) (.slice (some ⟨b,o,none⟩) pl.length c3) w8) := hS8
   clear hz8 hS8 hS7 hP7 hQ7 hI7 hsl4 h4
   unfold frp11
   go_wp2_with fail
   refine ly_r13 _ (fun _ _ _ _ _ h => h) _ _ w0 g17 g18 pl.length k L p s lo (glK lx0 (lyY a L iS iR pl lo) pl.length k) fm (edI a L (pl.drop (k + 1))) a1 c1 w8 ⟨hz8h.out.drew,hS8h.out.bp,hS8h.out.bs⟩ hbase.out.2.1 hckh.out hpkh.out hoks.out (hS8h.out.rb.below (below_drew w8) hS8h.out.rb.lt) (by rw [glK_len]; exact hlt) hlt' hlt hsz.out hgz ?_
   intro w9 hS9 hr9
   have hr9h : Hid (RB 7 lxL w9 w0.heap.size (glK lx0 (lyY a L iS iR pl lo) pl.length (k + 1))) := by
    rw [← hYh.out,glK_set hlt] at hr9
    exact hr9
   have hS9h : Hid (Below w0.heap.size w0 w9) := hS9.low
   clear hr9 hS9 hz8h hS8h
   unfold frp11
   have hk9 : (k : Int) ≤ 9000 := by have := hNh.out; omega
   go_wp2_with fail
   exact ⟨⟨k + 1,by omega,by rw [htoh.out],rfl,hS9h.out,hr9h.out⟩,by simp [intOf]; omega⟩
  ·have hge : ¬ (k : Int) < (pl.length : Int) := by omega
   obtain rfl : k = pl.length := by omega
   go_wp2_with fail
   refine hR.out _ (hzh.out.trans (hI.out.1.mono hzh.out.size)) ?_
   have h2 := hI.out.2.recs (n := pl.length) (cap := pl.length) (by rw [glK_len]; exact Nat.le_refl _) (Nat.le_refl _)
   rw [glK_all,List.take_of_length_le (by rw [glL_len]; exact Nat.le_refl _)] at h2
   exact h2
end Go.Proofs.YtlgcnbomfhmjiaaGreatDoor
