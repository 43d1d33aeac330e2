/-
  What is proved here: the chapter's cells, copied.
  What is proved here: split at one of its splits a cell has its first lines and its last ones; how rows look in memory.
-/
import Derived.Test.YtaphggjakaghjaaGreatDoorG37
namespace Go.Proofs.YtaphggjakaghjaaGreatDoor
open Go.RowKit Go.Shelf
set_option maxRecDepth 100000
set_option maxHeartbeats 4000000

theorem XC.below {W W' : World} {T g0 g1 : Nat} {sa : Option Addr} {sc : Nat} {a0 b0 a1 : Lx} (h : XC W T g0 g1 sa sc a0 b0 a1) (hb : Below W.heap.size W W') : XC W' T g0 g1 sa sc a0 b0 a1 :=
 ⟨(hb.cell h.lt).trans h.t0,(hb.cell h.lt).trans h.t1,(hb.cell h.lt).trans h.t2,(hb.cell h.lt).trans h.t3,(hb.cell h.lt).trans h.t4,(hb.cell h.lt).trans h.t5,h.s.below hb (Nat.le_refl _),h.l0.below hb (Nat.le_refl _),h.l1.below hb (Nat.le_refl _),Nat.lt_of_lt_of_le h.lt hb.size⟩
theorem range3 {W : World} {b o : Nat} {x y z : Value} (h0 : W.cell? ⟨b,o,none⟩ = some x) (h1 : W.cell? ⟨b,o + 1,none⟩ = some y) (h2 : W.cell? ⟨b,o + 2,none⟩ = some z) : W.rangeAt b o [x,y,z] := fun j v hv => by
 match j,hv with
 | 0,hv => cases hv; exact h0
 | 1,hv => cases hv; exact h1
 | 2,hv => cases hv; exact h2
theorem load46m {a : Act} {w : World} {b o : Nat} {x y : Int} {v : Value} {oi : Oper} {z : Operand} (h : w.rangeAt b o [.int .i64 x,.int .i64 y,v]) (ho : oi.op = .load 46 z) (hx : a.eval z = .pointer (some ⟨b,o,none⟩)) : (execOp a.eval oi).run Tryz.prog w = .ok (.value (.agg #[.int .i64 x,.int .i64 y,v])) w := by
 have hl := run_loadVar_mid (P := Tryz.prog) w b o 46 [.int .i64 x,.int .i64 y,v] _ h Tryz.underlying46 rfl (info46m _ _ _)
 simp [execOp,ho,hx,Instr.loadAt,Instr.sureAddr,hl]
def opK4 (ps : String) : Array Oper := #[⟨some 27,.fieldAddr 39 (.tmp 1) 2,0,ps,#[],none⟩,⟨some 28,.load 37 (.tmp 27),37,ps,#[⟨0,.data⟩],none⟩,⟨some 29,.indexAddr 37 (.tmp 28) (.const (.int .i64 0)),0,ps,#[⟨1,.data⟩],none⟩,⟨some 30,.load 46 (.tmp 29),46,ps,#[⟨2,.data⟩],none⟩,⟨some 31,.fieldAddr 39 (.tmp 1) 2,0,ps,#[⟨10,.gcOnly .lateStores⟩],none⟩,⟨some 32,.load 37 (.tmp 31),37,ps,#[⟨4,.data⟩,⟨10,.gcOnly .lateStores⟩],none⟩,⟨some 33,.indexAddr 37 (.tmp 32) (.const (.int .i64 1)),0,ps,#[⟨5,.data⟩,⟨10,.gcOnly .lateStores⟩],none⟩,⟨some 34,.load 46 (.tmp 33),46,ps,#[⟨6,.data⟩,⟨10,.gcOnly .lateStores⟩],none⟩,⟨some 3,.alloc 46,0,ps,#[],none⟩,⟨some 4,.alloc 46,0,ps,#[],none⟩,⟨none,.store 46 (.tmp 3) (.tmp 30),0,ps,#[⟨8,.data⟩,⟨3,.data⟩,⟨0,.phase⟩,⟨1,.phase⟩,⟨2,.phase⟩,⟨3,.phase⟩,⟨4,.textOnly .lateStores⟩,⟨5,.textOnly .lateStores⟩,⟨6,.textOnly .lateStores⟩,⟨7,.textOnly .lateStores⟩,⟨8,.phase⟩,⟨9,.phase⟩],none⟩,⟨none,.store 46 (.tmp 4) (.tmp 34),0,ps,#[⟨9,.data⟩,⟨7,.data⟩,⟨10,.chain⟩,⟨0,.phase⟩,⟨1,.phase⟩,⟨2,.phase⟩,⟨3,.phase⟩,⟨4,.phase⟩,⟨5,.phase⟩,⟨6,.phase⟩,⟨7,.phase⟩,⟨8,.phase⟩,⟨9,.phase⟩,⟨10,.phase⟩],none⟩]

theorem xk_r4 (Q : Exit → Act → World → Prop) (hQ : ∀ c x (n : Nat) v w,Q (.panic c) (x.put (some n) v) w → Q (.panic c) x w) (id : Nat) (ps : String) (gB T g0 g1 : Nat) (sa : Option Addr) (sc : Nat) (a0 b0 a1 : Lx) {v0 v2 v5 v6 v7 v8 v9 xa xb xc xd xe xf xg xh xi xj xk xl xm xn xo xp xq xr xt xu xv xw xx xy xz xA xB xC xD xE xF xG xH xI xJ xK xL xM xN xO xP xQ xR xS xT xU xV xW xX xY xZ ya yb yc yd ye yf yg yh yi yj yk yl ym yn yo yp yq yr yt yu yv yw yx yy yz yA yB yC yD yE yF yG yH yI yJ yK yL yM yN yO yP yQ yR yS yT yU yV yW yX yY yZ za zb zc zd ze zf zg zh zi zj zk zl zm zn zo zp zq zr zs zt zu zv zw zx zy zz zA zB zC zD zE zF zG zH zI zJ zK zL zM zN zO zP zQ zR zS zT zU zV zW zX zY zZ qa qb qc qd qf qg qh : Value} (W : World)
  (hbx : W.heap[gB]? = some (.cells #[.int .i64 24,.slice sa 1 sc,.slice (some ⟨T,0,none⟩) 2 2] 39 (0,0))) (hX : XC W T g0 g1 sa sc a0 b0 a1)
  (hK : ∀ g3 g4 W',W.heap.size ≤ g3 → W.heap.size ≤ g4 → W'.heap[g3]? = some (.cells #[.int .i64 0,.int .i64 16,.slice (some ⟨g0,0,none⟩) 2 2] 46 (0,0)) → W'.heap[g4]? = some (.cells #[.int .i64 16,.int .i64 14,.slice (some ⟨g1,0,none⟩) 1 1] 46 (0,0)) → Below W.heap.size W W' → Q .normal { tmps := #[v0,.pointer (some ⟨gB,0,none⟩),v2,.pointer (some ⟨g3,0,none⟩),.pointer (some ⟨g4,0,none⟩),v5,v6,v7,v8,v9,xa,xb,xc,xd,xe,xf,xg,xh,xi,xj,xk,xl,xm,xn,xo,xp,xq,.pointer (some ⟨gB,2,none⟩),.slice (some ⟨T,0,none⟩) 2 2,.pointer (some ⟨T,0,none⟩),.agg #[.int .i64 0,.int .i64 16,.slice (some ⟨g0,0,none⟩) 2 2],.pointer (some ⟨gB,2,none⟩),.slice (some ⟨T,0,none⟩) 2 2,.pointer (some ⟨T,3,none⟩),.agg #[.int .i64 16,.int .i64 14,.slice (some ⟨g1,0,none⟩) 1 1],xr,xt,xu,xv,xw,xx,xy,xz,xA,xB,xC,xD,xE,xF,xG,xH,xI,xJ,xK,xL,xM,xN,xO,xP,xQ,xR,xS,xT,xU,xV,xW,xX,xY,xZ,ya,yb,yc,yd,ye,yf,yg,yh,yi,yj,yk,yl,ym,yn,yo,yp,yq,yr,yt,yu,yv,yw,yx,yy,yz,yA,yB,yC,yD,yE,yF,yG,yH,yI,yJ,yK,yL,yM,yN,yO,yP,yQ,yR,yS,yT,yU,yV,yW,yX,yY,yZ,za,zb,zc,zd,ze,zf,zg,zh,zi,zj,zk,zl,zm,zn,zo,zp,zq,zr,zs,zt,zu,zv,zw,zx,zy,zz,zA,zB,zC,zD,zE,zF,zG,zH,zI,zJ,zK,zL,zM,zN,zO,zP,zQ,zR,zS,zT,zU,zV,zW,zX,zY,zZ,qa,qb,qc,qd,qf,qg,qh],defers := [] } W') :
  (Code.region id (opK4 ps) true).wp Tryz.prog Q { tmps := #[v0,.pointer (some ⟨gB,0,none⟩),v2,undef,undef,v5,v6,v7,v8,v9,xa,xb,xc,xd,xe,xf,xg,xh,xi,xj,xk,xl,xm,xn,xo,xp,xq,undef,undef,undef,undef,undef,undef,undef,undef,xr,xt,xu,xv,xw,xx,xy,xz,xA,xB,xC,xD,xE,xF,xG,xH,xI,xJ,xK,xL,xM,xN,xO,xP,xQ,xR,xS,xT,xU,xV,xW,xX,xY,xZ,ya,yb,yc,yd,ye,yf,yg,yh,yi,yj,yk,yl,ym,yn,yo,yp,yq,yr,yt,yu,yv,yw,yx,yy,yz,yA,yB,yC,yD,yE,yF,yG,yH,yI,yJ,yK,yL,yM,yN,yO,yP,yQ,yR,yS,yT,yU,yV,yW,yX,yY,yZ,za,zb,zc,zd,ze,zf,zg,zh,zi,zj,zk,zl,zm,zn,zo,zp,zq,zr,zs,zt,zu,zv,zw,zx,zy,zz,zA,zB,zC,zD,zE,zF,zG,zH,zI,zJ,zK,zL,zM,zN,zO,zP,zQ,zR,zS,zT,zU,zV,zW,zX,zY,zZ,qa,qb,qc,qd,qf,qg,qh],defers := [] } W := by
 have hS : Below W.heap.size W W.drew := below_drew W
 refine wp_region_held (S := fun w => Below W.heap.size W w) (by kernel_rfl) ?_
 change wpAnyH _ _ _ _ _ 12 _ _ (World.drew W)
 have hlb : gB < W.heap.size := (Array.getElem?_eq_some_iff.1 hbx).1
 generalize W.drew = V at *
 unfold opK4
 refine wpAnyH_take (i := 0) (v := .pointer (some ⟨gB,2,none⟩)) rfl (by kernel_rfl) (by kernel_rfl) (by kernel_rfl) (fun c x w => hQ c x _ _ w) (Or.inl ⟨by rfl,?y0⟩) hS ?_
 case y0 => (intro w' hw'; go_simp)
 go_simp
 refine wpAnyH_take (i := 1) (v := .slice (some ⟨T,0,none⟩) 2 2) rfl (by kernel_rfl) (by kernel_rfl) (by kernel_rfl) (fun c x w => hQ c x _ _ w) (Or.inl ⟨by rfl,?y1⟩) hS ?_
 case y1 => (intro w' hw'; have hbx' := (hw'.block gB hlb).trans hbx; have b2 : w'.cell? ⟨gB,2,none⟩ = some (.slice (some ⟨T,0,none⟩) 2 2) := (Lib.cell_of_heap hbx' _).trans rfl; go_simp)
 go_simp
 refine wpAnyH_take (i := 2) (v := .pointer (some ⟨T,0,none⟩)) rfl (by kernel_rfl) (by kernel_rfl) (by kernel_rfl) (fun c x w => hQ c x _ _ w) (Or.inl ⟨by rfl,?y2⟩) hS ?_
 case y2 => (intro w' hw'; go_simp)
 go_simp
 refine wpAnyH_take (i := 3) (v := .agg #[.int .i64 0,.int .i64 16,.slice (some ⟨g0,0,none⟩) 2 2]) rfl (by kernel_rfl) (by kernel_rfl) (by kernel_rfl) (fun c x w => hQ c x _ _ w) (Or.inl ⟨by rfl,?y3⟩) hS ?_
 case y3 => (intro w' hw'; exact load46m (b := T) (o := 0) (range3 (hX.below hw').t0 (hX.below hw').t1 (hX.below hw').t2) rfl rfl)
 go_simp
 refine wpAnyH_take (i := 4) (v := .pointer (some ⟨gB,2,none⟩)) rfl (by kernel_rfl) (by kernel_rfl) (by kernel_rfl) (fun c x w => hQ c x _ _ w) (Or.inl ⟨by rfl,?y4⟩) hS ?_
 case y4 => (intro w' hw'; go_simp)
 go_simp
 refine wpAnyH_take (i := 5) (v := .slice (some ⟨T,0,none⟩) 2 2) rfl (by kernel_rfl) (by kernel_rfl) (by kernel_rfl) (fun c x w => hQ c x _ _ w) (Or.inl ⟨by rfl,?y5⟩) hS ?_
 case y5 => (intro w' hw'; have hbx' := (hw'.block gB hlb).trans hbx; have b2 : w'.cell? ⟨gB,2,none⟩ = some (.slice (some ⟨T,0,none⟩) 2 2) := (Lib.cell_of_heap hbx' _).trans rfl; go_simp)
 go_simp
 refine wpAnyH_take (i := 6) (v := .pointer (some ⟨T,3,none⟩)) rfl (by kernel_rfl) (by kernel_rfl) (by kernel_rfl) (fun c x w => hQ c x _ _ w) (Or.inl ⟨by rfl,?y6⟩) hS ?_
 case y6 => (intro w' hw'; go_simp)
 go_simp
 refine wpAnyH_take (i := 7) (v := .agg #[.int .i64 16,.int .i64 14,.slice (some ⟨g1,0,none⟩) 1 1]) rfl (by kernel_rfl) (by kernel_rfl) (by kernel_rfl) (fun c x w => hQ c x _ _ w) (Or.inl ⟨by rfl,?y7⟩) hS ?_
 case y7 => (intro w' hw'; exact load46m (b := T) (o := 3) (range3 (hX.below hw').t3 (hX.below hw').t4 (hX.below hw').t5) rfl rfl)
 go_simp
 refine two_h (i := 8) (j := 9) (by kernel_rfl) rfl rfl (by kernel_rfl) (by kernel_rfl) (fun K hK' => ?_) (fun K hK' => ?_)
 ·go_simp
  refine hK' _ _ (hS.alloc hS.size _) ?_
  clear hK' K
  go_simp
  refine want_h (i := 9) (by kernel_rfl) rfl (by kernel_rfl) fun K hK' => ?_
  go_simp
  refine hK' _ _ ((hS.alloc hS.size _).alloc (hS.alloc hS.size _).size _) ?_
  clear hK' K
  go_simp
  have hB2 : Below W.heap.size W ((V.alloc (.cells #[.int .i64 0,.int .i64 0,.slice none 0 0] 46)).alloc (.cells #[.int .i64 0,.int .i64 0,.slice none 0 0] 46)) := (hS.alloc hS.size _).alloc (hS.alloc hS.size _).size _
  have z0 : ((V.alloc (.cells #[.int .i64 0,.int .i64 0,.slice none 0 0] 46)).alloc (.cells #[.int .i64 0,.int .i64 0,.slice none 0 0] 46)).heap[V.heap.size]? = some (.cells #[.int .i64 0,.int .i64 0,.slice none 0 0] 46 (0,0)) := (Below.heap_alloc _ _ _ (by simp)).trans (World.alloc_heap_new V _)
  have z1 : ((V.alloc (.cells #[.int .i64 0,.int .i64 0,.slice none 0 0] 46)).alloc (.cells #[.int .i64 0,.int .i64 0,.slice none 0 0] 46)).heap[V.heap.size + 1]? = some (.cells #[.int .i64 0,.int .i64 0,.slice none 0 0] 46 (0,0)) := alloc2_heap V _ _
  have hv := hS.size
  clear hS
  generalize (V.alloc (.cells #[.int .i64 0,.int .i64 0,.slice none 0 0] 46)).alloc (.cells #[.int .i64 0,.int .i64 0,.slice none 0 0] 46) = w2 at *
  have hT3 := Turns.setRow (X := fun k => k = V.heap.size) w2 (r := V.heap.size) rfl #[.int .i64 0,.int .i64 16,.slice (some ⟨g0,0,none⟩) 2 2]
  have y3 := setRow_heap _ _ _ (#[.int .i64 0,.int .i64 16,.slice (some ⟨g0,0,none⟩) 2 2] : Array Value) _ _ z0
  have y4 := (hT3.block (V.heap.size + 1) (Array.getElem?_eq_some_iff.1 z1).1 (by omega)).trans z1
  have hB3 := hB2.trans (hT3.below hB2.size (fun k hk => by omega))
  refine want_h (i := 10) (by kernel_rfl) rfl (by kernel_rfl) fun K hK' => ?_
  refine wp_store_row 46 _ _ rfl V.heap.size #[.int .i64 0,.int .i64 16,.slice (some ⟨g0,0,none⟩) 2 2] rfl rfl 46 _ z0 (info46 _ _ _) rfl (one46 _ _ _ _ _) ?_
  refine hK' _ _ hB3 ?_
  clear hK' K
  go_simp
  generalize w2.setRow V.heap.size #[.int .i64 0,.int .i64 16,.slice (some ⟨g0,0,none⟩) 2 2] = w3 at *
  have hT4 := Turns.setRow (X := fun k => k = (V.heap.size + 1)) w3 (r := (V.heap.size + 1)) rfl #[.int .i64 16,.int .i64 14,.slice (some ⟨g1,0,none⟩) 1 1]
  have x4 := setRow_heap _ _ _ (#[.int .i64 16,.int .i64 14,.slice (some ⟨g1,0,none⟩) 1 1] : Array Value) _ _ y4
  have x3 := (hT4.block V.heap.size (Array.getElem?_eq_some_iff.1 y3).1 (by omega)).trans y3
  have hB4 := hB3.trans (hT4.below hB3.size (fun k hk => by omega))
  refine want_h (i := 11) (by kernel_rfl) rfl (by kernel_rfl) fun K hK' => ?_
  refine wp_store_row 46 _ _ rfl (V.heap.size + 1) #[.int .i64 16,.int .i64 14,.slice (some ⟨g1,0,none⟩) 1 1] rfl rfl 46 _ y4 (info46 _ _ _) rfl (one46 _ _ _ _ _) ?_
  refine hK' _ _ hB4 ?_
  clear hK' K
  exact wpAnyH_done (by kernel_rfl) (hK V.heap.size (V.heap.size + 1) _ (by omega) (by omega) x3 x4 hB4) _
 ·go_simp
  refine hK' _ _ (hS.alloc hS.size _) ?_
  clear hK' K
  go_simp
  refine want_h (i := 8) (by kernel_rfl) rfl (by kernel_rfl) fun K hK' => ?_
  go_simp
  refine hK' _ _ ((hS.alloc hS.size _).alloc (hS.alloc hS.size _).size _) ?_
  clear hK' K
  go_simp
  have hB2 : Below W.heap.size W ((V.alloc (.cells #[.int .i64 0,.int .i64 0,.slice none 0 0] 46)).alloc (.cells #[.int .i64 0,.int .i64 0,.slice none 0 0] 46)) := (hS.alloc hS.size _).alloc (hS.alloc hS.size _).size _
  have z0 : ((V.alloc (.cells #[.int .i64 0,.int .i64 0,.slice none 0 0] 46)).alloc (.cells #[.int .i64 0,.int .i64 0,.slice none 0 0] 46)).heap[V.heap.size]? = some (.cells #[.int .i64 0,.int .i64 0,.slice none 0 0] 46 (0,0)) := (Below.heap_alloc _ _ _ (by simp)).trans (World.alloc_heap_new V _)
  have z1 : ((V.alloc (.cells #[.int .i64 0,.int .i64 0,.slice none 0 0] 46)).alloc (.cells #[.int .i64 0,.int .i64 0,.slice none 0 0] 46)).heap[V.heap.size + 1]? = some (.cells #[.int .i64 0,.int .i64 0,.slice none 0 0] 46 (0,0)) := alloc2_heap V _ _
  have hv := hS.size
  clear hS
  generalize (V.alloc (.cells #[.int .i64 0,.int .i64 0,.slice none 0 0] 46)).alloc (.cells #[.int .i64 0,.int .i64 0,.slice none 0 0] 46) = w2 at *
  have hT3 := Turns.setRow (X := fun k => k = (V.heap.size + 1)) w2 (r := (V.heap.size + 1)) rfl #[.int .i64 0,.int .i64 16,.slice (some ⟨g0,0,none⟩) 2 2]
  have y3 := setRow_heap _ _ _ (#[.int .i64 0,.int .i64 16,.slice (some ⟨g0,0,none⟩) 2 2] : Array Value) _ _ z1
  have y4 := (hT3.block V.heap.size (Array.getElem?_eq_some_iff.1 z0).1 (by omega)).trans z0
  have hB3 := hB2.trans (hT3.below hB2.size (fun k hk => by omega))
  refine want_h (i := 10) (by kernel_rfl) rfl (by kernel_rfl) fun K hK' => ?_
  refine wp_store_row 46 _ _ rfl (V.heap.size + 1) #[.int .i64 0,.int .i64 16,.slice (some ⟨g0,0,none⟩) 2 2] rfl rfl 46 _ z1 (info46 _ _ _) rfl (one46 _ _ _ _ _) ?_
  refine hK' _ _ hB3 ?_
  clear hK' K
  go_simp
  generalize w2.setRow (V.heap.size + 1) #[.int .i64 0,.int .i64 16,.slice (some ⟨g0,0,none⟩) 2 2] = w3 at *
  have hT4 := Turns.setRow (X := fun k => k = V.heap.size) w3 (r := V.heap.size) rfl #[.int .i64 16,.int .i64 14,.slice (some ⟨g1,0,none⟩) 1 1]
  have x4 := setRow_heap _ _ _ (#[.int .i64 16,.int .i64 14,.slice (some ⟨g1,0,none⟩) 1 1] : Array Value) _ _ y4
  have x3 := (hT4.block (V.heap.size + 1) (Array.getElem?_eq_some_iff.1 y3).1 (by omega)).trans y3
  have hB4 := hB3.trans (hT4.below hB3.size (fun k hk => by omega))
  refine want_h (i := 11) (by kernel_rfl) rfl (by kernel_rfl) fun K hK' => ?_
  refine wp_store_row 46 _ _ rfl V.heap.size #[.int .i64 16,.int .i64 14,.slice (some ⟨g1,0,none⟩) 1 1] rfl rfl 46 _ y4 (info46 _ _ _) rfl (one46 _ _ _ _ _) ?_
  refine hK' _ _ hB4 ?_
  clear hK' K
  exact wpAnyH_done (by kernel_rfl) (hK (V.heap.size + 1) V.heap.size _ (by omega) (by omega) x3 x4 hB4) _
end Go.Proofs.YtaphggjakaghjaaGreatDoor

namespace Go.Proofs.YtaphggjakaghjaaGreatDoor
open Go.RowKit Go.Shelf

theorem take_more (ls : List Lx) {k : Nat} (hk : k < ls.length) : ls.take (k + 1) = ls.take k ++ [ls.getD k lx0] := by
 rw [List.take_add_one,List.getElem?_eq_getElem hk,List.getD_eq_getElem?_getD,List.getElem?_eq_getElem hk]; rfl
theorem wi_take (ls : List Lx) (m : Nat) : ∀ k,k ≤ ls.length → wiN ls 0 (2 + 10 * (m : Int)) k = (ls.take k).take m
 | 0,_ => by simp [wiN]
 | k + 1,hk => by
  have ih := wi_take ls m k (by omega)
  show wiN ls 0 (2 + 10 * (m : Int)) k ++ (if wiB 0 (2 + 10 * (m : Int)) k then [ls.getD k lx0] else []) = _
  rw [ih,List.take_take,List.take_take]
  by_cases h : k < m
  ·rw [if_pos ⟨by omega,by omega⟩,show min m k = k by omega,show min m (k + 1) = k + 1 by omega,take_more ls (by omega)]
  ·rw [if_neg (fun hb => h (by have := hb.2; omega)),List.append_nil,show min m k = m by omega,show min m (k + 1) = m by omega]
theorem wi_drop (ls : List Lx) (m : Nat) (t : Int) (ht : ∀ k,k < ls.length → 2 + 10 * (k : Int) < t) : ∀ k,k ≤ ls.length → wiN ls (2 + 10 * (m : Int)) t k = (ls.take k).drop m
 | 0,_ => by simp [wiN]
 | k + 1,hk => by
  have ih := wi_drop ls m t ht k (by omega)
  have h1 := ht k (by omega)
  show wiN ls (2 + 10 * (m : Int)) t k ++ (if wiB (2 + 10 * (m : Int)) t k then [ls.getD k lx0] else []) = _
  rw [ih,take_more ls (by omega)]
  have hl : (ls.take k).length = k := by rw [List.length_take]; omega
  by_cases h : m ≤ k
  ·rw [if_pos ⟨by omega,h1⟩,List.drop_append_of_le_length (by omega)]
  ·rw [if_neg (fun hb => h (by have := hb.1; omega)),List.append_nil,List.drop_eq_nil_of_le (by omega),List.drop_eq_nil_of_le (by rw [List.length_append,hl]; simp; omega)]
theorem wi_cut (ls : List Lx) (m : Nat) (t : Int) (ht : ∀ k,k < ls.length → 2 + 10 * (k : Int) < t) : wiL ls 0 (2 + 10 * (m : Int)) = ls.take m ∧ wiL ls (2 + 10 * (m : Int)) t = ls.drop m := by
 refine ⟨?_,?_⟩
 ·unfold wiL; rw [wi_take ls m _ (Nat.le_refl _),List.take_length]
 ·unfold wiL; rw [wi_drop ls m t ht _ (Nat.le_refl _),List.take_length]
structure RoF (gu i : Nat) (h : Int) (sa : Option Addr) (sn sc T n : Nat) (W : World) : Prop where
 lt : gu < W.heap.size
 c0 : W.cell? ⟨gu,i * 3,none⟩ = some (.int .i64 h)
 c1 : W.cell? ⟨gu,i * 3 + 1,none⟩ = some (.slice sa sn sc)
 c2 : W.cell? ⟨gu,i * 3 + 2,none⟩ = some (.slice (some ⟨T,0,none⟩) n n)
theorem RoF.below {gu i : Nat} {h : Int} {sa : Option Addr} {sn sc T n : Nat} {W W' : World} (k : RoF gu i h sa sn sc T n W) (hb : Below W.heap.size W W') : RoF gu i h sa sn sc T n W' :=
 ⟨Nat.lt_of_lt_of_le k.lt hb.size,(hb.cell k.lt).trans k.c0,(hb.cell k.lt).trans k.c1,(hb.cell k.lt).trans k.c2⟩
theorem RoF.range {gu i : Nat} {h : Int} {sa : Option Addr} {sn sc T n : Nat} {W : World} (k : RoF gu i h sa sn sc T n W) : W.rangeAt gu (i * 3) [.int .i64 h,.slice sa sn sc,.slice (some ⟨T,0,none⟩) n n] := range3 k.c0 k.c1 k.c2
theorem load39m {a : Act} {w : World} {b o : Nat} {x : Int} {v u : Value} {oi : Oper} {z : Operand} (h : w.rangeAt b o [.int .i64 x,v,u]) (ho : oi.op = .load 39 z) (hx : a.eval z = .pointer (some ⟨b,o,none⟩)) : (execOp a.eval oi).run Tryz.prog w = .ok (.value (.agg #[.int .i64 x,v,u])) w := by
 have hl := run_loadVar_mid (P := Tryz.prog) w b o 39 [.int .i64 x,v,u] _ h Tryz.underlying39 rfl (info39l _ _ _)
 simp [execOp,ho,hx,Instr.loadAt,Instr.sureAddr,hl]
end Go.Proofs.YtaphggjakaghjaaGreatDoor
