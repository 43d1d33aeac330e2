/-
  What is proved here: the region of Lay that breaks items.
  What is proved here: what Lay of para answers.
  What is proved here: what Inner of para answers, of any paragraph and profile.
-/
import Derived.Test.YtaphggjakaghjaaGreatDoorG1
import Derived.Test.YtaphggjakaghjaaGreatDoorG29
import Derived.Test.YtaphggjakaghjaaGreatDoorG19
namespace Go.Proofs.YtaphggjakaghjaaGreatDoor
open Go.RowKit Go.Shelf
set_option maxRecDepth 100000
set_option maxHeartbeats 1000000

structure L5S (X Y : Nat) (a : Pa) (iR : Sl) (L : List It) (iS : List Sl) (v u : Value) (W : World) : Prop where
 pb : PB W X a
 s9 : W.heap[Y]? = some (.cells (slL iR).toArray 98 (0,0))
 hl : ItsAt W v L
 hs : SlsAt W u iS
theorem L5S.below {X Y : Nat} {a : Pa} {iR : Sl} {L : List It} {iS : List Sl} {v u : Value} {W W' : World} (h : L5S X Y a iR L iS v u W) (hb : Below W.heap.size W W') : L5S X Y a iR L iS v u W' :=
 ⟨h.pb.below hb h.pb.lt,(hb.block _ (Array.getElem?_eq_some_iff.1 h.s9).1).trans h.s9,h.hl.below hb (Nat.le_refl _),h.hs.below hb (Nat.le_refl _)⟩
def opp11_5_0 (ps : String) : Oper := ⟨some 34,.load 95 (.tmp 3),95,ps,#[],none⟩
def opp11_5_1 (ps : String) : Oper := ⟨some 35,.move (.tmp 11),111,ps,#[],none⟩
def opp11_5_2 (ps : String) : Oper := ⟨some 36,.call ⟨.value (.func 74),#[.tmp 34,.tmp 35],#[95,111]⟩,138,ps,#[⟨0,.data⟩,⟨1,.data⟩],none⟩
def opp11_5_3 (ps : String) : Oper := ⟨some 37,.move (.tmp 11),111,ps,#[],none⟩
def opp11_5_4 (ps : String) : Oper := ⟨some 38,.move (.tmp 8),109,ps,#[],none⟩
def opp11_5_5 (ps : String) : Oper := ⟨some 39,.load 98 (.tmp 9),98,ps,#[],none⟩
def opp11_5_6 (ps : String) : Oper := ⟨some 40,.call ⟨.value (.tmp 36),#[.tmp 37,.tmp 38,.tmp 39],#[111,109,98]⟩,136,ps,#[⟨2,.data⟩,⟨3,.data⟩,⟨4,.data⟩,⟨5,.data⟩,⟨2,.chain⟩],none⟩
def opp11_5_7 (ps : String) : Oper := ⟨some 33,.move (.tmp 40),136,ps,#[⟨6,.data⟩],none⟩
def opp11_5_8 (ps : String) : Oper := ⟨some 41,.extract (.tmp 33) 0,116,ps,#[⟨7,.data⟩],none⟩
def opp11_5_9 (ps : String) : Oper := ⟨some 42,.extract (.tmp 33) 1,4,ps,#[⟨7,.data⟩,⟨10,.gcOnly .lateStores⟩],none⟩
def opp11_5_10 (ps : String) : Oper := ⟨some 12,.assign (.tmp 41),116,ps,#[⟨8,.data⟩,⟨6,.chain⟩,⟨0,.phase⟩,⟨1,.phase⟩,⟨2,.phase⟩,⟨3,.phase⟩,⟨4,.phase⟩,⟨5,.phase⟩,⟨6,.phase⟩,⟨7,.phase⟩,⟨8,.phase⟩,⟨9,.textOnly .lateStores⟩],none⟩
def opp11_5_11 (ps : String) : Oper := ⟨some 13,.assign (.tmp 42),4,ps,#[⟨9,.data⟩,⟨10,.chain⟩,⟨0,.phase⟩,⟨1,.phase⟩,⟨2,.phase⟩,⟨3,.phase⟩,⟨4,.phase⟩,⟨5,.phase⟩,⟨6,.phase⟩,⟨7,.phase⟩,⟨8,.phase⟩,⟨9,.phase⟩,⟨10,.phase⟩],none⟩
def opp11_5 (ps : String) : Array Oper := #[opp11_5_0 ps,opp11_5_1 ps,opp11_5_2 ps,opp11_5_3 ps,opp11_5_4 ps,opp11_5_5 ps,opp11_5_6 ps,opp11_5_7 ps,opp11_5_8 ps,opp11_5_9 ps,opp11_5_10 ps,opp11_5_11 ps]
theorem ly_call66 (X Y : Nat) (a : Pa) (iR : Sl) (L : List It) (iS : List Sl) (pl : List Pc) (lo : Bool) (a1 a2 : Option Addr) (c1 c2 : Nat) (hN : chN a L = 107) (hc : ∀ w,ItsAt w (.slice a1 L.length c1) L → SlsAt w (.slice a2 iS.length c2) iS → Calls Tryz.prog 107 #[(.slice a1 L.length c1),(.slice a2 iS.length c2),.agg (slL iR).toArray] w (BkEnd pl lo w)) : ∀ (ps : String) (fr : Act) (w : World) (K : Act → World → Prop) (Q : Exit → Act → World → Prop),fr.eval (.tmp 36) = .func (.func (chN a L)) #[] #[] → fr.eval (.tmp 37) = (.slice a1 L.length c1) → fr.eval (.tmp 38) = (.slice a2 iS.length c2) → fr.eval (.tmp 39) = .agg (slL iR).toArray → (L5S X Y a iR L iS (.slice a1 L.length c1) (.slice a2 iS.length c2)) w → (∀ a3 c3 w',PcsAt w' (.slice a3 pl.length c3) pl → Below w.heap.size w w' → K (fr.put (some 40) (.tuple #[.slice a3 pl.length c3,.bool lo])) w') → (opp11_5_6 ps).wp Tryz.prog fr w K Q := by
 intro ps fr w K Q h1 h2 h3 h4 hS hK
 have hc := hc w hS.hl hS.hs
 rw [hN] at h1
 unfold opp11_5_6
 unfold Oper.wp execOp
 simp only [resolve,List.map_toArray,List.map_cons,List.map_nil,h1,h2,h3,h4]
 go_simp
 refine hc.mono ?_
 rintro e w' ⟨⟨u,rfl,hu⟩,hb⟩
 obtain ⟨a3,c3,rfl,-⟩ := hu.ex
 exact hK a3 c3 w' hu hb
theorem ly_call67 (X Y : Nat) (a : Pa) (iR : Sl) (L : List It) (iS : List Sl) (pl : List Pc) (lo : Bool) (a1 a2 : Option Addr) (c1 c2 : Nat) (hN : chN a L = 108) (hc : ∀ w,ItsAt w (.slice a1 L.length c1) L → SlsAt w (.slice a2 iS.length c2) iS → Calls Tryz.prog 108 #[(.slice a1 L.length c1),(.slice a2 iS.length c2),.agg (slL iR).toArray] w (BkEnd pl lo w)) : ∀ (ps : String) (fr : Act) (w : World) (K : Act → World → Prop) (Q : Exit → Act → World → Prop),fr.eval (.tmp 36) = .func (.func (chN a L)) #[] #[] → fr.eval (.tmp 37) = (.slice a1 L.length c1) → fr.eval (.tmp 38) = (.slice a2 iS.length c2) → fr.eval (.tmp 39) = .agg (slL iR).toArray → (L5S X Y a iR L iS (.slice a1 L.length c1) (.slice a2 iS.length c2)) w → (∀ a3 c3 w',PcsAt w' (.slice a3 pl.length c3) pl → Below w.heap.size w w' → K (fr.put (some 40) (.tuple #[.slice a3 pl.length c3,.bool lo])) w') → (opp11_5_6 ps).wp Tryz.prog fr w K Q := by
 intro ps fr w K Q h1 h2 h3 h4 hS hK
 have hc := hc w hS.hl hS.hs
 rw [hN] at h1
 unfold opp11_5_6
 unfold Oper.wp execOp
 simp only [resolve,List.map_toArray,List.map_cons,List.map_nil,h1,h2,h3,h4]
 go_simp
 refine hc.mono ?_
 rintro e w' ⟨⟨u,rfl,hu⟩,hb⟩
 obtain ⟨a3,c3,rfl,-⟩ := hu.ex
 exact hK a3 c3 w' hu hb

theorem ly_r5 (Q : Exit → Act → World → Prop) (hQ : ∀ c x (n : Nat) v w,Q (.panic c) (x.put (some n) v) w → Q (.panic c) x w) (id : Nat) (ps : String) {v0 v1 v2 v4 v5 v6 v7 xa xb xc xd xe xf xg xh xi xj xk xl xm xn xo xp xq xr xt xu xv xw xx xy xz xA xB xC xD xE xF xG xH xI xJ xK xL xM xN xO xP xQ xR xS xT xU xV xW xX xY xZ ya yb yc yd ye yf yg yh yi yj yk yl ym yn yo yp yq yr yt yu yv yw yx yy yz : Value} (z : World) (X Y : Nat) (a : Pa) (iR : Sl) (L : List It) (iS : List Sl) (pl : List Pc) (lo : Bool) (a1 a2 : Option Addr) (c1 c2 : Nat) (w : World) (hS : L5S X Y a iR L iS (.slice a1 L.length c1) (.slice a2 iS.length c2) (World.drew w))
  (hz0 : Below z.heap.size z (World.drew w)) (hl8 : L.length ≤ 9223372036854775807) (hcall : ∀ (ps : String) (fr : Act) (w : World) (K : Act → World → Prop) (Q : Exit → Act → World → Prop),fr.eval (.tmp 36) = .func (.func (chN a L)) #[] #[] → fr.eval (.tmp 37) = (.slice a1 L.length c1) → fr.eval (.tmp 38) = (.slice a2 iS.length c2) → fr.eval (.tmp 39) = .agg (slL iR).toArray → (L5S X Y a iR L iS (.slice a1 L.length c1) (.slice a2 iS.length c2)) w → (∀ a3 c3 w',PcsAt w' (.slice a3 pl.length c3) pl → Below w.heap.size w w' → K (fr.put (some 40) (.tuple #[.slice a3 pl.length c3,.bool lo])) w') → (opp11_5_6 ps).wp Tryz.prog fr w K Q)
  (hq : ∀ a3 c3 w',Below z.heap.size z w' → (L5S X Y a iR L iS (.slice a1 L.length c1) (.slice a2 iS.length c2)) w' → PcsAt w' (.slice a3 pl.length c3) pl → Q .normal (frp11 v0 v1 v2 (.pointer (some ⟨X,0,none⟩)) v4 v5 v6 v7 (.slice a2 iS.length c2) (.pointer (some ⟨Y,0,none⟩)) xa (.slice a1 L.length c1) (.slice a3 pl.length c3) (.bool lo) xd xe xf xg xh xi xj xk xl xm xn xo xp xq xr xt xu xv xw (.tuple #[.slice a3 pl.length c3,.bool lo]) (.agg (paC a)) (.slice a1 L.length c1) (.func (.func (chN a L)) #[] #[]) (.slice a1 L.length c1) (.slice a2 iS.length c2) (.agg (slL iR).toArray) (.tuple #[.slice a3 pl.length c3,.bool lo]) (.slice a3 pl.length c3) (.bool lo) xH xI xJ xK xL xM xN xO xP xQ xR xS xT xU xV xW xX xY xZ ya yb yc yd ye yf yg yh yi yj yk yl ym yn yo yp yq yr yt yu yv yw yx yy yz) w') :
  (Code.region id (opp11_5 ps) true).wp Tryz.prog Q (frp11 v0 v1 v2 (.pointer (some ⟨X,0,none⟩)) v4 v5 v6 v7 (.slice a2 iS.length c2) (.pointer (some ⟨Y,0,none⟩)) xa (.slice a1 L.length c1) xb xc xd xe xf xg xh xi xj xk xl xm xn xo xp xq xr xt xu xv xw xx xy xz xA xB xC xD xE xF xG xH xI xJ xK xL xM xN xO xP xQ xR xS xT xU xV xW xX xY xZ ya yb yc yd ye yf yg yh yi yj yk yl ym yn yo yp yq yr yt yu yv yw yx yy yz) w := by
 refine wp_region_held (S := L5S X Y a iR L iS (.slice a1 L.length c1) (.slice a2 iS.length c2)) (by kernel_rfl) ?_
 change wpAnyH _ _ _ _ _ 12 _ _ (World.drew w)
 refine take_r 0 ⟨some 34,.load 95 (.tmp 3),95,ps,#[],none⟩ (.agg (paC a)) hQ (fun w hS => load_pa hS.pb rfl rfl) hS ?_
 refine take_r 1 ⟨some 35,.move (.tmp 11),111,ps,#[],none⟩ (.slice a1 L.length c1) hQ (fun w _ => by kernel_rfl) hS ?_
 refine take_r 3 ⟨some 37,.move (.tmp 11),111,ps,#[],none⟩ (.slice a1 L.length c1) hQ (fun w _ => by kernel_rfl) hS ?_
 refine take_r 4 ⟨some 38,.move (.tmp 8),109,ps,#[],none⟩ (.slice a2 iS.length c2) hQ (fun w _ => by kernel_rfl) hS ?_
 refine take_r 5 ⟨some 39,.load 98 (.tmp 9),98,ps,#[],none⟩ (.agg (slL iR).toArray) hQ (fun w hS => load_r30 hS.s9 rfl rfl) hS ?_
 refine want_k 2 (opp11_5_2 ps) fun K hK => ?_
 unfold frp11 opp11_5_2
 go_simp
 refine (choose31 a (.slice a1 L.length c1) L hl8 _ hS.hl).mono ?_
 rintro e w1 ⟨rfl,hb1⟩
 have hS1 : L5S X Y a iR L iS (.slice a1 L.length c1) (.slice a2 iS.length c2) w1 := hS.below hb1
 have hz1 := hz0.trans (hb1.mono hz0.size)
 refine hK _ _ hS1 (cast_h (frp11 v0 v1 v2 (.pointer (some ⟨X,0,none⟩)) v4 v5 v6 v7 (.slice a2 iS.length c2) (.pointer (some ⟨Y,0,none⟩)) xa (.slice a1 L.length c1) xb xc xd xe xf xg xh xi xj xk xl xm xn xo xp xq xr xt xu xv xw xx (.agg (paC a)) (.slice a1 L.length c1) (.func (.func (chN a L)) #[] #[]) (.slice a1 L.length c1) (.slice a2 iS.length c2) (.agg (slL iR).toArray) xE xF xG xH xI xJ xK xL xM xN xO xP xQ xR xS xT xU xV xW xX xY xZ ya yb yc yd ye yf yg yh yi yj yk yl ym yn yo yp yq yr yt yu yv yw yx yy yz) (by kernel_rfl) ?_)
 clear hK K
 refine want_k 6 (opp11_5_6 ps) fun K hK => ?_
 refine hcall ps _ _ _ _ rfl rfl rfl rfl hS1 fun a3 c3 w2 hu hb2 => ?_
 have hS2 : L5S X Y a iR L iS (.slice a1 L.length c1) (.slice a2 iS.length c2) w2 := hS1.below hb2
 have hz2 := hz1.trans (hb2.mono hz1.size)
 refine hK _ _ hS2 (cast_h (frp11 v0 v1 v2 (.pointer (some ⟨X,0,none⟩)) v4 v5 v6 v7 (.slice a2 iS.length c2) (.pointer (some ⟨Y,0,none⟩)) xa (.slice a1 L.length c1) xb xc xd xe xf xg xh xi xj xk xl xm xn xo xp xq xr xt xu xv xw xx (.agg (paC a)) (.slice a1 L.length c1) (.func (.func (chN a L)) #[] #[]) (.slice a1 L.length c1) (.slice a2 iS.length c2) (.agg (slL iR).toArray) (.tuple #[.slice a3 pl.length c3,.bool lo]) xF xG xH xI xJ xK xL xM xN xO xP xQ xR xS xT xU xV xW xX xY xZ ya yb yc yd ye yf yg yh yi yj yk yl ym yn yo yp yq yr yt yu yv yw yx yy yz) (by kernel_rfl) ?_)
 clear hK K
 refine take_r 7 ⟨some 33,.move (.tmp 40),136,ps,#[⟨6,.data⟩],none⟩ (.tuple #[.slice a3 pl.length c3,.bool lo]) hQ (fun w _ => by kernel_rfl) hS2 ?_
 refine take_r 8 ⟨some 41,.extract (.tmp 33) 0,116,ps,#[⟨7,.data⟩],none⟩ (.slice a3 pl.length c3) hQ (fun w _ => by kernel_rfl) hS2 ?_
 refine take_r 9 ⟨some 42,.extract (.tmp 33) 1,4,ps,#[⟨7,.data⟩,⟨10,.gcOnly .lateStores⟩],none⟩ (.bool lo) hQ (fun w _ => by kernel_rfl) hS2 ?_
 refine take_r 10 ⟨some 12,.assign (.tmp 41),116,ps,#[⟨8,.data⟩,⟨6,.chain⟩,⟨0,.phase⟩,⟨1,.phase⟩,⟨2,.phase⟩,⟨3,.phase⟩,⟨4,.phase⟩,⟨5,.phase⟩,⟨6,.phase⟩,⟨7,.phase⟩,⟨8,.phase⟩,⟨9,.textOnly .lateStores⟩],none⟩ (.slice a3 pl.length c3) hQ (fun w _ => by kernel_rfl) hS2 ?_
 refine take_r 11 ⟨some 13,.assign (.tmp 42),4,ps,#[⟨9,.data⟩,⟨10,.chain⟩,⟨0,.phase⟩,⟨1,.phase⟩,⟨2,.phase⟩,⟨3,.phase⟩,⟨4,.phase⟩,⟨5,.phase⟩,⟨6,.phase⟩,⟨7,.phase⟩,⟨8,.phase⟩,⟨9,.phase⟩,⟨10,.phase⟩],none⟩ (.bool lo) hQ (fun w _ => by kernel_rfl) hS2 ?_
 exact wpAnyH_done (by kernel_rfl) (hq _ _ _ hz2 hS2 hu) _
end Go.Proofs.YtaphggjakaghjaaGreatDoor

namespace Go.Proofs.YtaphggjakaghjaaGreatDoor
open Go.RowKit Go.Shelf
set_option maxRecDepth 100000
set_option maxHeartbeats 8000000

def frI (a : Pa) (L : List It) (pl : List Pc) (k : Nat) : Int := if k = 0 then 0 else edI a L (pl.drop k)
def pcA (pl : List Pc) (k : Nat) : Pc := pl.getD k (pc0 0)
def lyY (a : Pa) (L : List It) (iS : List Sl) (iR : Sl) (pl : List Pc) (lo : Bool) (k : Nat) : Lx :=
 ⟨frI a L pl k,edI a L (pl.drop (k + 1)),(slN iS iR k).x,(slN iS iR k).w,(pcA pl k).nt,(pcA pl k).hy,fgI L (pcA pl k) (slN iS iR k) lo⟩
theorem pcA_is {pl : List Pc} {k : Nat} (h : k < pl.length) : pcA pl k = pl[k] := by
 unfold pcA; rw [List.getD_eq_getElem?_getD,List.getElem?_eq_getElem h]; rfl
def rest11 : Code := (((Code.region 8 #[⟨some 46,.move (.tmp 12),116,"para.go:47",#[],none⟩,⟨some 47,.call ⟨.builtin .len,#[.tmp 46],#[116]⟩,3,"para.go:47",#[⟨0,.data⟩],none⟩,⟨some 48,.move (.const (.int .i64 0)),3,"para.go:47",#[],none⟩] false).seq (Code.block 0 ((Code.region 9 #[⟨some 49,.binOp .lss 3 (.tmp 48) (.tmp 47) 3,0,"para.go:47",#[],none⟩] false).seq ((Code.cond (Operand.tmp 49) Code.skip (Code.exit 0)).seq ((Code.block 1 ((Code.region 10 #[⟨some 50,.move (.tmp 48),3,"para.go:47",#[],none⟩,⟨some 51,.indexAddr 116 (.tmp 46) (.tmp 48),0,"para.go:47",#[],none⟩,⟨some 52,.load 122 (.tmp 51),122,"para.go:47",#[⟨1,.data⟩],none⟩,⟨some 17,.alloc 122,0,"para.go:47",#[],none⟩,⟨some 16,.assign (.tmp 50),3,"para.go:47",#[⟨0,.data⟩,⟨0,.phase⟩,⟨1,.phase⟩,⟨2,.phase⟩,⟨3,.phase⟩],none⟩,⟨none,.store 122 (.tmp 17) (.tmp 52),0,"para.go:47",#[⟨3,.data⟩,⟨2,.data⟩,⟨4,.chain⟩,⟨0,.phase⟩,⟨1,.phase⟩,⟨2,.phase⟩,⟨3,.phase⟩,⟨4,.phase⟩],none⟩] false).seq ((Code.region 11 #[⟨some 53,.move (.tmp 8),109,"para.go:48",#[],none⟩,⟨some 54,.load 98 (.tmp 9),98,"para.go:48",#[],none⟩,⟨some 55,.move (.tmp 16),3,"para.go:48",#[],none⟩,⟨some 56,.call ⟨.value (.func 75),#[.tmp 53,.tmp 54,.tmp 55],#[109,98,3]⟩,98,"para.go:48",#[⟨0,.data⟩,⟨1,.data⟩,⟨2,.data⟩],none⟩,⟨some 18,.alloc 98,0,"para.go:48",#[],none⟩,⟨none,.store 98 (.tmp 18) (.tmp 56),0,"para.go:48",#[⟨4,.data⟩,⟨3,.data⟩,⟨3,.chain⟩,⟨0,.phase⟩,⟨1,.phase⟩,⟨2,.phase⟩,⟨3,.phase⟩,⟨4,.phase⟩],none⟩] false).seq ((Code.region 12 #[⟨some 57,.load 95 (.tmp 3),95,"para.go:49",#[],none⟩,⟨some 58,.move (.tmp 11),111,"para.go:49",#[],none⟩,⟨some 59,.move (.tmp 12),116,"para.go:49",#[],none⟩,⟨some 60,.move (.tmp 16),3,"para.go:49",#[],none⟩,⟨some 61,.binOp .add 3 (.tmp 60) (.const (.int .i64 1)) 3,3,"para.go:49",#[⟨3,.data⟩],none⟩,⟨some 62,.slice 116 (.tmp 59) (some (.tmp 61)) none none,116,"para.go:49",#[⟨2,.data⟩,⟨4,.data⟩],none⟩,⟨some 63,.call ⟨.value (.func 76),#[.tmp 57,.tmp 58,.tmp 62],#[95,111,116]⟩,3,"para.go:49",#[⟨0,.data⟩,⟨1,.data⟩,⟨5,.data⟩],none⟩,⟨some 19,.assign (.tmp 63),3,"para.go:49",#[⟨6,.data⟩,⟨6,.chain⟩,⟨0,.phase⟩,⟨1,.phase⟩,⟨2,.phase⟩,⟨3,.phase⟩,⟨4,.phase⟩,⟨5,.phase⟩,⟨6,.phase⟩],none⟩] true).seq ((Code.region 13 #[⟨some 64,.move (.tmp 14),44,"para.go:50",#[],none⟩,⟨some 65,.move (.tmp 16),3,"para.go:50",#[],none⟩,⟨some 66,.move (.tmp 15),3,"para.go:50",#[],none⟩,⟨some 67,.move (.tmp 19),3,"para.go:50",#[],none⟩,⟨some 68,.fieldAddr 98 (.tmp 18) 0,0,"para.go:50",#[],none⟩,⟨some 69,.load 3 (.tmp 68),3,"para.go:50",#[⟨4,.data⟩],none⟩,⟨some 70,.fieldAddr 98 (.tmp 18) 1,0,"para.go:50",#[],none⟩,⟨some 71,.load 3 (.tmp 70),3,"para.go:50",#[⟨6,.data⟩],none⟩,⟨some 72,.fieldAddr 122 (.tmp 17) 4,0,"para.go:50",#[],none⟩,⟨some 73,.load 3 (.tmp 72),3,"para.go:50",#[⟨8,.data⟩],none⟩,⟨some 74,.fieldAddr 122 (.tmp 17) 3,0,"para.go:50",#[],none⟩,⟨some 75,.load 4 (.tmp 74),4,"para.go:50",#[⟨10,.data⟩],none⟩,⟨some 76,.move (.tmp 11),111,"para.go:50",#[],none⟩,⟨some 77,.load 122 (.tmp 17),122,"para.go:50",#[],none⟩,⟨some 78,.load 98 (.tmp 18),98,"para.go:50",#[],none⟩,⟨some 79,.call ⟨.value (.func 78),#[.tmp 76,.tmp 77,.tmp 78],#[111,122,98]⟩,4,"para.go:50",#[⟨12,.data⟩,⟨13,.data⟩,⟨14,.data⟩],none⟩,⟨some 80,.move (.tmp 13),4,"para.go:50",#[],none⟩,⟨some 81,.call ⟨.value (.func 77),#[.tmp 79,.tmp 80],#[4,4]⟩,3,"para.go:50",#[⟨15,.data⟩,⟨16,.data⟩,⟨15,.chain⟩],none⟩,⟨some 82,.build 55 #[(0,.tmp 66),(1,.tmp 67),(2,.tmp 69),(3,.tmp 71),(4,.tmp 73),(5,.tmp 75),(6,.tmp 81)],55,"para.go:50",#[⟨2,.data⟩,⟨3,.data⟩,⟨5,.data⟩,⟨7,.data⟩,⟨9,.data⟩,⟨11,.data⟩,⟨17,.data⟩],none⟩,⟨some 83,.indexAddr 44 (.tmp 64) (.tmp 65),0,"para.go:50",#[⟨0,.data⟩,⟨1,.data⟩,⟨0,.phase⟩,⟨1,.phase⟩,⟨2,.phase⟩,⟨3,.phase⟩,⟨4,.phase⟩,⟨5,.phase⟩,⟨6,.phase⟩,⟨7,.phase⟩,⟨8,.phase⟩,⟨9,.phase⟩,⟨10,.phase⟩,⟨11,.phase⟩,⟨12,.phase⟩,⟨13,.phase⟩,⟨14,.phase⟩,⟨15,.phase⟩,⟨16,.phase⟩,⟨17,.phase⟩,⟨18,.phase⟩],none⟩,⟨none,.store 55 (.tmp 83) (.tmp 82),0,"para.go:50",#[⟨19,.data⟩,⟨18,.data⟩,⟨17,.chain⟩,⟨0,.phase⟩,⟨1,.phase⟩,⟨2,.phase⟩,⟨3,.phase⟩,⟨4,.phase⟩,⟨5,.phase⟩,⟨6,.phase⟩,⟨7,.phase⟩,⟨8,.phase⟩,⟨9,.phase⟩,⟨10,.phase⟩,⟨11,.phase⟩,⟨12,.phase⟩,⟨13,.phase⟩,⟨14,.phase⟩,⟨15,.phase⟩,⟨16,.phase⟩,⟨17,.phase⟩,⟨18,.phase⟩],none⟩] true).seq (Code.region 14 #[⟨some 84,.move (.tmp 19),3,"para.go:51",#[],none⟩,⟨some 15,.assign (.tmp 84),3,"para.go:51",#[⟨0,.data⟩,⟨0,.phase⟩],none⟩] false)))))).seq (Code.region 15 #[⟨some 85,.binOp .add 3 (.tmp 48) (.const (.int .i64 1)) 3,3,"para.go:47",#[],none⟩,⟨some 48,.move (.tmp 85),3,"para.go:47",#[⟨0,.data⟩],none⟩] false)))).loop)).seq ((Code.region 16 #[⟨some 86,.move (.tmp 14),44,"para.go:53",#[],none⟩,⟨some 6,.assign (.tmp 86),44,"para.go:53",#[⟨0,.data⟩,⟨0,.phase⟩],none⟩,⟨some 7,.assign (.const (.int .i64 0)),28,"para.go:53",#[⟨1,.chain⟩,⟨0,.phase⟩,⟨1,.phase⟩],none⟩] false).seq Code.ret))
theorem ly_rest (RR : Ending → World → Prop) (z w0 w : World) (X Y : Nat) (a : Pa) (L : List It) (iS : List Sl) (iR : Sl) (pl : List Pc) (lo : Bool) (a1 a2 a3 : Option Addr) (c1 c2 c3 : Nat)
  (hck : ckL L = 0) (hcs : ckS iS iR = 0) (hN : pl.length ≤ 9000) (hps : ∀ k (h : k < pl.length),pl[k].a ≤ pl[k].b ∧ pl[k].b ≤ L.length ∧ (0 < k → pl[k].a < L.length))
  (hz : Below z.heap.size z w0) (hpb : PB w0 X a) (h9 : w0.heap[Y]? = some (.cells (slL iR).toArray 98 (0,0))) (hl0 : ItsAt w0 (.slice a1 L.length c1) L) (hs0 : SlsAt w0 (.slice a2 iS.length c2) iS) (hp0 : PcsAt w0 (.slice a3 pl.length c3) pl)
  (hw : Below w0.heap.size w0 w) (hr : RB 7 lxL w w0.heap.size (glK lx0 (lyY a L iS iR pl lo) pl.length 0)) {v0 v1 v2 v4 v5 v6 v7 xa xc xd xe xf xg xh xi xj xk xl xm xn xo xp xq xr xt xu xv xw xx xy xz xA xB xC xD xE xF xG xH xI xJ xK xL xM xN xO xP xQ xR xS xT xU xV xW xX xY xZ ya yb yc yd ye yf yg yh yi yj yk yl ym yn yo yp yq yr yt yu yv yw : Value}
  (hR : Hid (∀ W,Below z.heap.size z W → LxsAt W (.slice (some ⟨w0.heap.size,0,none⟩) pl.length pl.length) (glL (lyY a L iS iR pl lo) pl.length) → RR (.returned (.tuple #[.slice (some ⟨w0.heap.size,0,none⟩) pl.length pl.length,.int .i64 0])) W)) :
  rest11.wp Tryz.prog (bodyPost Tryz.prog Tryz.f60 RR) { tmps := #[v0,v1,v2,.pointer (some ⟨X,0,none⟩),v4,v5,v6,v7,.slice a2 iS.length c2,.pointer (some ⟨Y,0,none⟩),xa,.slice a1 L.length c1,.slice a3 pl.length c3,.bool lo,.slice (some ⟨w0.heap.size,0,none⟩) pl.length pl.length,.int .i64 0,xc,xd,xe,xf,xg,xh,xi,xj,xk,xl,xm,xn,xo,xp,xq,xr,xt,xu,xv,xw,xx,xy,xz,xA,xB,xC,xD,xE,xF,xG,xH,xI,xJ,xK,xL,xM,xN,xO,xP,xQ,xR,xS,xT,xU,xV,xW,xX,xY,xZ,ya,yb,yc,yd,ye,yf,yg,yh,yi,yj,yk,yl,ym,yn,yo,yp,yq,yr,yt,yu,yv,yw],defers := [] } w := by
 have hI0 : Hid (Below w0.heap.size w0 w ∧ RB 7 lxL w w0.heap.size (glK lx0 (lyY a L iS iR pl lo) pl.length 0)) := ⟨hw,hr⟩
 have hbase : Hid (PB w0 X a ∧ ItsAt w0 (.slice a1 L.length c1) L ∧ PcsAt w0 (.slice a3 pl.length c3) pl) := ⟨hpb,hl0,hp0⟩
 have hsl : Hid (∀ k W,Below w0.heap.size w0 W → Calls Tryz.prog 75 #[(.slice a2 iS.length c2),.agg #[.int .i64 iR.x,.int .i64 iR.w],.int .i64 (k : Nat)] W fun e w' => e = .returned (.agg #[.int .i64 (slN iS iR k).x,.int .i64 (slN iS iR k).w]) ∧ Below W.heap.size W w') := fun k W hW => sls_slot (by have := ckS_few hcs; omega) (hs0.below hW (Nat.le_refl _))
 have hok : Hid (∀ k,okS (slN iS iR k) = true) := slN_ok hcs
 have hckh : Hid (ckL L = 0) := hck
 have hzh : Hid (Below z.heap.size z w0) := hz
 have hpsh : Hid (∀ k (h : k < pl.length),pl[k].a ≤ pl[k].b ∧ pl[k].b ≤ L.length ∧ (0 < k → pl[k].a < L.length)) := hps
 have h9h : Hid (∀ W,Below w0.heap.size w0 W → W.heap[Y]? = some (.cells #[.int .i64 iR.x,.int .i64 iR.w] 98 (0,0))) := fun W hW => (hW.block _ (Array.getElem?_eq_some_iff.1 h9).1).trans h9
 have hNh : Hid (pl.length ≤ 9000) := hN
 have hf0 : frI a L pl 0 = 0 := rfl
 clear hck hcs hps hz hpb h9 hl0 hs0 hp0 hw hr hN
 unfold rest11
 go_wp2_with fail
 go_loopw [15,48] (fun xb xJ wr => ∃ k : Nat,k ≤ pl.length ∧ xb = .int .i64 (frI a L pl k) ∧ xJ = .int .i64 k ∧ Hid (Below w0.heap.size w0 wr ∧ RB 7 lxL wr w0.heap.size (glK lx0 (lyY a L iS iR pl lo) pl.length k))) (fun _ xJ _ => pl.length - (intOf xJ).toNat)
 case atStart => exact ⟨0,by omega,by rw [hf0],rfl,hI0⟩
 case round =>
  obtain ⟨k,hk,rfl,rfl,hI⟩ := hrel
  clear hI0 hf0
  by_cases hlt : k < pl.length
  ·have hlt' : (k : Int) < (pl.length : Int) := by omega
   obtain ⟨b,o,rfl,hbl,hrg⟩ := pcs_range (hbase.out.2.2.below hI.out.1 (Nat.le_refl _)) hlt
   have hpk := hpsh.out k hlt
   obtain ⟨p,hpe⟩ : ∃ p,p = pl[k] := ⟨_,rfl⟩
   rw [← hpe] at hrg hpk
   obtain ⟨fm,hfm⟩ : ∃ fm,fm = frI a L pl k := ⟨_,rfl⟩
   obtain ⟨s,hse⟩ : ∃ s,s = slN iS iR k := ⟨_,rfl⟩
   have hsk := hsl.out k
   rw [← hse] at hsk
   rw [← hfm]
   have hYh : Hid (lyY a L iS iR pl lo k = ⟨fm,edI a L (pl.drop (k + 1)),s.x,s.w,p.nt,p.hy,fgI L p s lo⟩) := by
    show _ = _
    unfold lyY
    rw [pcA_is hlt,← hpe,← hse,← hfm]
   have hoks : Hid (okS s = true) := by rw [hse]; exact hok.out k
   have hto : frI a L pl (k + 1) = edI a L (pl.drop (k + 1)) := if_neg (by omega)
   have htoh : Hid (frI a L pl (k + 1) = edI a L (pl.drop (k + 1))) := hto
   have hnext : Hid (∀ p' ∈ (pl.drop (k + 1)).head?,p'.a < L.length) := fun p' hp' => by
    by_cases h2 : k + 1 < pl.length
    ·have e : (pl.drop (k + 1)).head? = some pl[k + 1] := by rw [List.head?_drop,List.getElem?_eq_getElem h2]
     rw [e] at hp'
     cases hp'
     exact (hpsh.out (k + 1) h2).2.2 (by omega)
    ·rw [List.drop_eq_nil_of_le (by omega)] at hp'
     cases hp'
   have hskh : Hid (∀ W,Below w0.heap.size w0 W → Calls Tryz.prog 75 #[(.slice a2 iS.length c2),.agg #[.int .i64 iR.x,.int .i64 iR.w],.int .i64 (k : Nat)] W fun e w' => e = .returned (.agg #[.int .i64 s.x,.int .i64 s.w]) ∧ Below W.heap.size W w') := hsk
   have hpkh : Hid (p.a ≤ p.b ∧ p.b ≤ L.length) := ⟨hpk.1,hpk.2.1⟩
   have hsz : Hid (w0.heap.size < wr.heap.size) := hI.out.2.lt
   have hz0 : (wr.alloc (.cells #[.int .i64 0,.int .i64 0,.bool false,.bool false,.int .i64 0] 122)).heap[wr.heap.size]? = some (.cells #[.int .i64 0,.int .i64 0,.bool false,.bool false,.int .i64 0] 122 (0,0)) := World.alloc_heap_new wr _
   have hI5 : Hid (Below w0.heap.size w0 ((wr.alloc (.cells #[.int .i64 0,.int .i64 0,.bool false,.bool false,.int .i64 0] 122)).setRow wr.heap.size (pcL p).toArray) ∧ RB 7 lxL ((wr.alloc (.cells #[.int .i64 0,.int .i64 0,.bool false,.bool false,.int .i64 0] 122)).setRow wr.heap.size (pcL p).toArray) w0.heap.size (glK lx0 (lyY a L iS iR pl lo) pl.length k)) := by
    have hT := Turns.setRow (X := fun j => j = wr.heap.size) (wr.alloc (.cells #[.int .i64 0,.int .i64 0,.bool false,.bool false,.int .i64 0] 122)) rfl (pcL p).toArray
    have hB5 : Below wr.heap.size wr ((wr.alloc (.cells #[.int .i64 0,.int .i64 0,.bool false,.bool false,.int .i64 0] 122)).setRow wr.heap.size (pcL p).toArray) := ((Below.refl wr.heap.size wr).alloc (Nat.le_refl _) _).trans (hT.below (by simp) (fun j hj => by omega))
    exact ⟨hI.out.1.trans (hB5.mono hI.out.1.size),hI.out.2.below hB5 hI.out.2.lt⟩
   clear hsl hok hpsh hR hpk hpe hse hfm hto hsk hI
   go_wp2_with (first | (refine wpList_load_mid rfl 122 _ rfl b (o + k * 5) rfl (pcL p) _ hrg Tryz.underlying122 rfl (info41 p) ?_) | (refine wpList_store_row rfl 122 _ _ rfl wr.heap.size (pcL p).toArray rfl rfl 122 _ hz0 (info41 p) rfl (pcL_all p) ?_; have hz1 : ((wr.alloc (.cells #[.int .i64 0,.int .i64 0,.bool false,.bool false,.int .i64 0] 122)).setRow wr.heap.size (pcL p).toArray).heap[wr.heap.size]? = some (.cells (pcL p).toArray 122 (0,0)) := setRow_heap _ _ _ _ _ _ hz0; clear hz0 hrg; generalize (wr.alloc (.cells #[.int .i64 0,.int .i64 0,.bool false,.bool false,.int .i64 0] 122)).setRow wr.heap.size (pcL p).toArray = w5 at *; generalize wr.heap.size = g17 at *; have x5 := h9h.out w5 hI5.out.1) | (refine wpList_load_row rfl 98 _ rfl Y rfl 98 _ (0,0) _ x5 Tryz.underlying98 rfl (info25 _ _) ?_) | (go_at_call 75; refine (hskh.out w5 hI5.out.1).mono ?_; rintro e w6 ⟨rfl,hb6⟩; have hb6h : Hid (Below w5.heap.size w5 w6) := hb6; have hz1h : Hid (w5.heap[g17]? = some (.cells (pcL p).toArray 122 (0,0))) := hz1; clear hb6 hz1 x5 h9h hskh))
   have hB7 : Below w5.heap.size w5 (w6.alloc (.cells #[.int .i64 s.x,.int .i64 s.w] 98)) := hb6h.out.alloc hb6h.out.size _
   have hI7 : Hid (Below w0.heap.size w0 (w6.alloc (.cells #[.int .i64 s.x,.int .i64 s.w] 98)) ∧ RB 7 lxL (w6.alloc (.cells #[.int .i64 s.x,.int .i64 s.w] 98)) w0.heap.size (glK lx0 (lyY a L iS iR pl lo) pl.length k)) := ⟨hI5.out.1.trans (hB7.mono hI5.out.1.size),hI5.out.2.below hB7 hI5.out.2.lt⟩
   have hP7 : (w6.alloc (.cells #[.int .i64 s.x,.int .i64 s.w] 98)).heap[g17]? = some (.cells (pcL p).toArray 122 (0,0)) := (hB7.block _ (Array.getElem?_eq_some_iff.1 hz1h.out).1).trans hz1h.out
   have hQ7 : (w6.alloc (.cells #[.int .i64 s.x,.int .i64 s.w] 98)).heap[w6.heap.size]? = some (.cells (slL s).toArray 98 (0,0)) := World.alloc_heap_new w6 _
   have hgz : w0.heap.size < w6.heap.size := by have := hb6h.out.size; have := (Array.getElem?_eq_some_iff.1 hz1h.out).1; have := hsz.out; omega
   clear hB7 hb6h hI5 hz1h
   generalize w6.alloc (.cells #[.int .i64 s.x,.int .i64 s.w] 98) = w7 at *
   generalize w6.heap.size = g18 at *
   have hc3 := hbase.out.2.2.le _ _ _ rfl
   obtain ⟨a4,hsl4,h4⟩ := low59 (some ⟨b,o,none⟩) pl.length c3 (k + 1) (by omega) hc3
   have hS7 : LrS X w0.heap.size g17 g18 a L pl p s (glK lx0 (lyY a L iS iR pl lo) pl.length k) (.slice a1 L.length c1) (.slice (some ⟨b,o,none⟩) pl.length c3) w7 := ⟨hbase.out.1.below hI7.out.1 hbase.out.1.lt,hbase.out.2.1.below hI7.out.1 (Nat.le_refl _),hbase.out.2.2.below hI7.out.1 (Nat.le_refl _),hP7,hQ7,hI7.out.2⟩
   refine ly_r12 _ (fun _ _ _ _ _ h => h) _ _ w0 X w0.heap.size g17 g18 k a L pl p s (glK lx0 (lyY a L iS iR pl lo) pl.length k) a1 (some ⟨b,o,none⟩) a4 c1 c3 w7 (hS7.below (below_drew w7)) hI7.out.1.drew (by omega) (by have := hNh.out; omega) hnext.out (fun W => hsl4 W) h4 ?_
   intro w8 hz8 hS8
   have hz8h : Hid (Below w0.heap.size w0 w8) := hz8
   have hS8h : Hid (LrS X w0.heap.size g17 g18 a L pl p s (glK lx0 (lyY a L iS iR pl lo) pl.length k) (.slice a1 L.length c1) (.slice (some ⟨b,o,none⟩) pl.length c3) w8) := hS8
   clear hz8 hS8 hS7 hP7 hQ7 hI7 hsl4 h4
   unfold frp11
   go_wp2_with fail
   refine ly_r13 _ (fun _ _ _ _ _ h => h) _ _ w0 g17 g18 pl.length k L p s lo (glK lx0 (lyY a L iS iR pl lo) pl.length k) fm (edI a L (pl.drop (k + 1))) a1 c1 w8 ⟨hz8h.out.drew,hS8h.out.bp,hS8h.out.bs⟩ hbase.out.2.1 hckh.out hpkh.out hoks.out (hS8h.out.rb.below (below_drew w8) hS8h.out.rb.lt) (by rw [glK_len]; exact hlt) hlt' hlt hsz.out hgz ?_
   intro w9 hS9 hr9
   have hr9h : Hid (RB 7 lxL w9 w0.heap.size (glK lx0 (lyY a L iS iR pl lo) pl.length (k + 1))) := by
    rw [← hYh.out,glK_set hlt] at hr9
    exact hr9
   have hS9h : Hid (Below w0.heap.size w0 w9) := hS9.low
   clear hr9 hS9 hz8h hS8h
   unfold frp11
   have hk9 : (k : Int) ≤ 9000 := by have := hNh.out; omega
   go_wp2_with fail
   exact ⟨⟨k + 1,by omega,by rw [htoh.out],rfl,hS9h.out,hr9h.out⟩,by simp [intOf]; omega⟩
  ·have hge : ¬ (k : Int) < (pl.length : Int) := by omega
   obtain rfl : k = pl.length := by omega
   go_wp2_with fail
   refine hR.out _ (hzh.out.trans (hI.out.1.mono hzh.out.size)) ?_
   have h2 := hI.out.2.recs (n := pl.length) (cap := pl.length) (by rw [glK_len]; exact Nat.le_refl _) (Nat.le_refl _)
   rw [glK_all,List.take_of_length_le (by rw [glL_len]; exact Nat.le_refl _)] at h2
   exact h2
end Go.Proofs.YtaphggjakaghjaaGreatDoor

namespace Go.Proofs.YtaphggjakaghjaaGreatDoor
open Go.RowKit Go.Shelf
set_option maxRecDepth 100000
set_option maxHeartbeats 4000000

theorem alloc3_heap (w : World) (x y u : Obj) : (((w.alloc x).alloc y).alloc u).heap[w.heap.size]? = some x ∧ (((w.alloc x).alloc y).alloc u).heap[w.heap.size + 1]? = some y ∧ (((w.alloc x).alloc y).alloc u).heap[w.heap.size + 1 + 1]? = some u := by
 refine ⟨?_,?_,?_⟩
 ·exact (Below.heap_alloc _ _ _ (by simp; omega)).trans ((Below.heap_alloc _ _ _ (by simp)).trans (World.alloc_heap_new w _))
 ·exact (Below.heap_alloc _ _ _ (by simp)).trans (alloc2_heap w _ _)
 ·have := alloc2_heap (w.alloc x) y u
  rwa [World.size_alloc] at this
theorem below3 (w : World) (x y u : Obj) : Below w.heap.size w (((w.alloc x).alloc y).alloc u) := (below2 w x y).alloc (by simp; omega) u
def InEnd (a : Pa) (ss : List Sl) (r : Sl) (w : World) (e : Ending) (w' : World) : Prop := Below w.heap.size w w' ∧
 ((paE a ss r ≠ 0 ∧ e = .returned (.tuple #[.slice none 0 0,.agg #[.int .i64 0,.int .i64 0],.int .i64 (paE a ss r)])) ∨
  (paE a ss r = 0 ∧ ∃ v,e = .returned (.tuple #[v,.agg (slL (inR a ss r)).toArray,.int .i64 0]) ∧ SlsAt w' v (inSs a ss r)))
theorem inner_any (a : Pa) (v : Value) (ss : List Sl) (r : Sl) (hl : ss.length ≤ 9223372036854775807) (w : World) (hA : PaAt w a) (hV : SlsAt w v ss) : Calls Tryz.prog 72 #[paV a,v,.agg (slL r).toArray] w (InEnd a ss r w) := by
 have hB := below3 w (Obj.cells (paC a) 95) (.cells #[.int .i64 r.x,.int .i64 r.w] 98) (.cells #[.int .i64 0,.int .i64 0] 98)
 have ha3 := alloc3_heap w (Obj.cells (paC a) 95) (.cells #[.int .i64 r.x,.int .i64 r.w] 98) (.cells #[.int .i64 0,.int .i64 0] 98)
 have hA1 := hA.below hB (Nat.le_refl _)
 have hV1 := hV.below hB (Nat.le_refl _)
 obtain ⟨av,cv,rfl,-⟩ := hV.ex
 have hBh : Hid (Below w.heap.size w (((w.alloc (.cells (paC a) 95)).alloc (.cells #[.int .i64 r.x,.int .i64 r.w] 98)).alloc (.cells #[.int .i64 0,.int .i64 0] 98))) := hB
 clear hB hA hV
 show Calls Tryz.prog 72 #[.agg (paC a),.slice av ss.length cv,.agg #[.int .i64 r.x,.int .i64 r.w]] w _
 generalize hwz : ((w.alloc (.cells (paC a) 95)).alloc (.cells #[.int .i64 r.x,.int .i64 r.w] 98)).alloc (.cells #[.int .i64 0,.int .i64 0] 98) = wz at *
 obtain ⟨k0,k1,k2⟩ := ha3
 have hP : PB wz w.heap.size a := ⟨k0⟩
 have hrf : Hid (Calls Tryz.prog 102 #[.agg (paC a),.slice av ss.length cv,.agg #[.int .i64 r.x,.int .i64 r.w]] wz fun e w' => e = .returned (.int .i64 (paE a ss r)) ∧ Below wz.heap.size wz w') := refuse44 a _ ss r hl wz hA1 hV1
 by_cases he : paE a ss r = 0
 ·obtain ⟨hck,hcs⟩ := paE_ok he
  have hend : Hid (∀ W,Below w.heap.size w W → ∀ u,SlsAt W u (inL' (inS (tkP a) ss r) (inN a ss)) → InEnd a ss r w (.returned (.tuple #[u,.agg (slL (tkI (tkP a) (inN a ss : Nat) r 5)).toArray,.int .i64 0])) W) := fun W hW u hu => ⟨hW,.inr ⟨he,u,rfl,hu⟩⟩
  have hp14 := (good_of hck).p14
  have hfew := ckS_few hcs
  have c16 : ∀ W,Below wz.heap.size wz W → W.cell? ⟨w.heap.size,16,none⟩ = some (.int .i64 a.p.p14) := fun W hW => (hP.below hW hP.lt).cell (k := 16) rfl
  have hc16 : Hid (∀ W,Below wz.heap.size wz W → W.cell? ⟨w.heap.size,16,none⟩ = some (.int .i64 a.p.p14)) := c16
  have hok : Hid ((tkP a).ok) := tkP_ok hck
  have htk : Hid (∀ W,Below wz.heap.size wz W → Calls Tryz.prog 103 #[.agg (paC a)] W fun e w' => (∃ v,e = .returned v ∧ TkAt w' v (tkP a)) ∧ Below W.heap.size W w') := fun W hW => takers_any a W (hA1.below hW (Nat.le_refl _))
  have hN : (inN a ss : Int) = max (max (ss.length : Int) 1) a.p.p14 := by unfold inN; omega
  have hmx : ∀ W,(Builtin.max_ #[3,3,3] 3 #[.int .i64 (ss.length : Nat),.int .i64 1,.int .i64 a.p.p14]).run Tryz.prog W = .ok (.int .i64 (inN a ss : Nat)) W := fun W => by
   rw [hN]
   simp [Builtin.max_,Builtin.max2]
   omega
  have hmk : ∀ W,(Instr.makeSlice 109 (.int .i64 (inN a ss : Nat)) (.int .i64 (inN a ss : Nat))).run Tryz.prog W = .ok (.slice (some ⟨W.heap.size,0,none⟩) (inN a ss) (inN a ss)) (W.alloc (.cells ((List.replicate (inN a ss) sl0).flatMap slL).toArray 98)) := make28 (by omega)
  have hNl : Hid (inN a ss ≤ 9100) := by show _ ≤ _; omega
  have hcsh : Hid (ckS ss r = 0) := hcs
  have hV1h : Hid (SlsAt wz (.slice av ss.length cv) ss) := hV1
  have k1h : Hid (wz.heap[w.heap.size + 1]? = some (.cells #[.int .i64 r.x,.int .i64 r.w] 98 (0,0)) ∧ wz.heap[w.heap.size + 1 + 1]? = some (.cells #[.int .i64 0,.int .i64 0] 98 (0,0))) := ⟨k1,k2⟩
  rw [he] at hrf
  clear he hck hcs hA1 hV1 c16 k2 hN
  generalize inN a ss = N at *
  generalize tkP a = q at *
  generalize hE : InEnd a ss r w = E at *
  go_enter Tryz.func72,Tryz.ntmps72
  change Code.wp Tryz.prog ((Code.region 0 #[⟨some 3,.box 95 (.tmp 0),0,"para.go:25",#[],none⟩,⟨some 5,.box 98 (.tmp 2),0,"para.go:25",#[],none⟩,⟨some 6,.assign (.const (.slice none 0 0)),109,"para.go:25",#[],none⟩,⟨some 7,.alloc 98,0,"para.go:25",#[],none⟩,⟨some 8,.assign (.const (.int .i64 0)),28,"para.go:25",#[⟨2,.chain⟩],none⟩] false).seq (((Code.region 1 #[⟨some 13,.load 95 (.tmp 3),95,"para.go:26",#[],none⟩,⟨some 14,.move (.tmp 1),109,"para.go:26",#[],none⟩,⟨some 15,.load 98 (.tmp 5),98,"para.go:26",#[],none⟩,⟨some 16,.call ⟨.value (.func 102),#[.tmp 13,.tmp 14,.tmp 15],#[95,109,98]⟩,28,"para.go:26",#[⟨0,.data⟩,⟨1,.data⟩,⟨2,.data⟩],none⟩,⟨some 9,.assign (.tmp 16),28,"para.go:26",#[⟨3,.data⟩,⟨3,.chain⟩,⟨0,.phase⟩,⟨1,.phase⟩,⟨2,.phase⟩,⟨3,.phase⟩],none⟩] false).seq ((Code.region 2 #[⟨some 17,.move (.tmp 9),28,"para.go:26",#[],none⟩,⟨some 18,.binOp .neq 28 (.tmp 17) (.const (.int .i64 0)) 28,4,"para.go:26",#[⟨0,.data⟩],none⟩] false).seq (Code.cond (Operand.tmp 18) ((Code.region 3 #[⟨some 19,.build 98 #[],98,"para.go:27",#[⟨2,.gcOnly .lateStores⟩],none⟩,⟨some 20,.move (.tmp 9),28,"para.go:27",#[⟨3,.gcOnly .lateStores⟩],none⟩,⟨some 6,.assign (.const (.slice none 0 0)),109,"para.go:27",#[⟨0,.textOnly .lateStores⟩,⟨1,.textOnly .lateStores⟩],none⟩,⟨none,.store 98 (.tmp 7) (.tmp 19),0,"para.go:27",#[⟨0,.data⟩,⟨2,.chain⟩,⟨0,.phase⟩,⟨1,.textOnly .lateStores⟩,⟨2,.phase⟩],none⟩,⟨some 8,.assign (.tmp 20),28,"para.go:27",#[⟨1,.data⟩,⟨3,.chain⟩,⟨0,.phase⟩,⟨1,.phase⟩,⟨2,.phase⟩,⟨3,.phase⟩],none⟩] false).seq Code.ret) Code.skip))).seq ((Code.region 4 #[⟨some 21,.load 95 (.tmp 3),95,"para.go:29",#[],none⟩,⟨some 22,.call ⟨.value (.func 103),#[.tmp 21],#[95]⟩,172,"para.go:29",#[⟨0,.data⟩],none⟩,⟨some 10,.assign (.tmp 22),172,"para.go:29",#[⟨1,.data⟩,⟨1,.chain⟩,⟨0,.phase⟩,⟨1,.phase⟩],none⟩] false).seq ((Code.region 5 #[⟨some 23,.move (.tmp 1),109,"para.go:30",#[],none⟩,⟨some 24,.call ⟨.builtin .len,#[.tmp 23],#[109]⟩,3,"para.go:30",#[⟨0,.data⟩],none⟩,⟨some 25,.fieldAddr 95 (.tmp 3) 2,0,"para.go:30",#[],none⟩,⟨some 26,.fieldAddr 93 (.tmp 25) 14,0,"para.go:30",#[⟨2,.data⟩],none⟩,⟨some 27,.load 3 (.tmp 26),3,"para.go:30",#[⟨3,.data⟩],none⟩,⟨some 28,.call ⟨.builtin .max,#[.tmp 24,.const (.int .i64 1),.tmp 27],#[3,3,3]⟩,3,"para.go:30",#[⟨1,.data⟩,⟨4,.data⟩],none⟩,⟨some 29,.makeSlice 109 (.tmp 28) (.tmp 28),109,"para.go:30",#[⟨5,.data⟩,⟨5,.data⟩],none⟩,⟨some 11,.assign (.tmp 29),109,"para.go:30",#[⟨6,.data⟩,⟨0,.phase⟩,⟨1,.phase⟩,⟨2,.phase⟩,⟨3,.phase⟩,⟨4,.phase⟩,⟨5,.phase⟩,⟨6,.phase⟩],none⟩] false).seq rest13)))) _ _ _
  go_wp2_with (first | (refine wpList_load_row rfl 95 _ rfl w.heap.size rfl 95 _ (0,0) _ hP.row Tryz.underlying95 rfl (info34 a) ?_) | (refine wpList_load_row rfl 98 _ rfl (w.heap.size + 1) rfl 98 _ (0,0) _ k1 Tryz.underlying98 rfl (info25 _ _) ?_) | (go_at_call 102; refine hrf.out.mono ?_; rintro e w2 ⟨rfl,hb2⟩; have hb2h : Hid (Below wz.heap.size wz w2) := hb2; have hP2 : w2.heap[w.heap.size]? = some (.cells (paC a) 95 (0,0)) := (hP.below hb2 hP.lt).row; clear hb2 hrf hP k1) | (refine wpList_load_row rfl 95 _ rfl w.heap.size rfl 95 _ (0,0) _ hP2 Tryz.underlying95 rfl (info34 a) ?_) | (go_at_call 103; refine (htk.out w2 hb2h.out).mono ?_; rintro e w3 ⟨⟨tv,rfl,hT⟩,hb3⟩; have hTh : Hid (TkAt w3 tv q) := hT; have hb3h : Hid (Below wz.heap.size wz w3) := hb2h.out.trans (hb3.mono hb2h.out.size); clear hb3 hT hb2h hP2 htk; have c16 := hc16.out w3 hb3h.out; clear hc16))
  have hz3 := hb3h.out
  obtain ⟨x1,x2⟩ := k1h.out
  have hsz := (Array.getElem?_eq_some_iff.1 x2).1
  subst hE
  refine in_rest _ q hok.out w w3 _ (w.heap.size + 1) N r ss _ tv hcsh.out hNl.out (hBh.out.trans (hz3.mono hBh.out.size)) (by omega) ((hz3.block _ (by omega)).trans x1) ((hz3.block _ hsz).trans x2) (hV1h.out.below hz3 (Nat.le_refl _)) hTh.out ((Below.refl w3.heap.size w3).alloc (Nat.le_refl _) _) (by rw [inK_zero]; exact made28 w3 N) ?_
  exact fun W h1 h2 => hend.out W h1 _ h2
 ·have hend : Hid (∀ W,Below w.heap.size w W → InEnd a ss r w (.returned (.tuple #[.slice none 0 0,.agg #[.int .i64 0,.int .i64 0],.int .i64 (paE a ss r)])) W) := fun W hW => ⟨hW,.inl ⟨he,rfl⟩⟩
  have he' : (paE a ss r == 0) = false := by simpa using he
  clear he hA1 hV1
  generalize paE a ss r = k at *
  generalize hE : InEnd a ss r w = E at *
  go_enter Tryz.func72,Tryz.ntmps72
  go_wp2_with (first | (refine wpList_load_row rfl 95 _ rfl w.heap.size rfl 95 _ (0,0) _ hP.row Tryz.underlying95 rfl (info34 a) ?_) | (refine wpList_load_row rfl 98 _ rfl (w.heap.size + 1) rfl 98 _ (0,0) _ k1 Tryz.underlying98 rfl (info25 _ _) ?_) | (go_at_call 102; refine hrf.out.mono ?_; rintro e w2 ⟨rfl,hb2⟩; have y2 : w2.heap[w.heap.size + 1 + 1]? = some (.cells #[.int .i64 0,.int .i64 0] 98 (0,0)) := (hb2.block _ (Array.getElem?_eq_some_iff.1 k2).1).trans k2; have g0 : w2.cell? ⟨w.heap.size + 1 + 1,0,none⟩ = some (.int .i64 0) := (Lib.cell_of_heap y2 _).trans rfl; have g1 : w2.cell? ⟨w.heap.size + 1 + 1,1,none⟩ = some (.int .i64 0) := (Lib.cell_of_heap y2 _).trans rfl; have g2 : w2.frozen? ⟨w.heap.size + 1 + 1,0,none⟩ = false := Lib.frozen_of_heap y2 0; have g3 : w2.frozen? ⟨w.heap.size + 1 + 1,1,none⟩ = false := Lib.frozen_of_heap y2 1; have y2h : Hid (w2.heap[w.heap.size + 1 + 1]? = some (.cells #[.int .i64 0,.int .i64 0] 98 (0,0))) := y2; clear y2))
  have y3 := heap_setCell_same _ (w.heap.size + 1 + 1) 0 _ 98 (.int .i64 0) y2h.out
  have y4 := heap_setCell_same _ (w.heap.size + 1 + 1) 1 _ 98 (.int .i64 0) y3
  refine bodyPost_ret (results_tct rfl _ _ (w.heap.size + 1 + 1) 98 #[.int .i64 0,.int .i64 0] (0,0) _ rfl y4 Tryz.underlying98 rfl (info25 _ _)) rfl ?_
  refine hend.out _ ?_
  have hT1 := Turns.setCell (X := fun j => j = w.heap.size + 1 + 1) w2 (p := ⟨w.heap.size + 1 + 1,0,none⟩) rfl (.int .i64 0)
  have hT2 := Turns.setCell (X := fun j => j = w.heap.size + 1 + 1) (w2.setCell ⟨w.heap.size + 1 + 1,0,none⟩ (.int .i64 0)) (p := ⟨w.heap.size + 1 + 1,1,none⟩) rfl (.int .i64 0)
  exact (hBh.out.trans (hb2.mono hBh.out.size)).trans ((hT1.trans hT2).below (Nat.le_trans hBh.out.size hb2.size) (fun j hj => by omega))
end Go.Proofs.YtaphggjakaghjaaGreatDoor
