/-
  What is proved here: what Height answers of any table.
  What is proved here: the chapter's cells, copied.
  What is proved here: GridKnown answers true.
  What is proved here: the chapter's examples are answered as it says.
-/
import Derived.Test.YtaphggjakaghjaaGreatDoorG39
import Derived.Test.YtaphggjakaghjaaGreatDoorG30
import Derived.Shelf.Strings.Repeat
import Derived.Test.YtaphggjakaghjaaGreatDoorProg
namespace Go.Proofs.YtaphggjakaghjaaGreatDoor
open Go.RowKit Go.Shelf
set_option maxRecDepth 100000
set_option maxHeartbeats 4000000

def rw0 : Rw := ⟨0,.slice none 0 0,[],.slice none 0 0,[]⟩
def htN (rs : List Rw) : Nat → Int
 | 0 => 0
 | k + 1 => htN rs k + (rs.getD k rw0).h
theorem htN_rng {rs : List Rw} (h : ∀ r ∈ rs,0 ≤ r.h ∧ r.h ≤ 5000) : ∀ k,k ≤ rs.length → 0 ≤ htN rs k ∧ htN rs k ≤ 5000 * (k : Int)
 | 0,_ => by simp [htN]
 | k + 1,hk => by
  have ih := htN_rng h k (by omega)
  have hg : rs.getD k rw0 = rs[k] := by rw [List.getD_eq_getElem?_getD,List.getElem?_eq_getElem (by omega)]; rfl
  have := h _ (List.getElem_mem (show k < rs.length by omega))
  show 0 ≤ htN rs k + (rs.getD k rw0).h ∧ htN rs k + (rs.getD k rw0).h ≤ _
  rw [hg]; omega
theorem RwIs.rng {ws : List Int} {ts : List ByteArray} {r : Rw} (h : RwIs ws ts r) (ht : ∀ t ∈ ts,cellB t = true) : 0 ≤ r.h ∧ r.h ≤ 5000 := by
 have := h.h
 have := mxN_le (ws := ws) ht ts.length (Nat.le_refl _)
 omega
def HtEnd (c : Int) (l : List ByteArray) (q : Int) (w : World) (e : Ending) (w' : World) : Prop :=
 Below w.heap.size w w' ∧
 ((chkG c l ≠ 0 ∧ e = .returned (.tuple #[.int .i64 0,.int .i64 (chkG c l)])) ∨
 (chkG c l = 0 ∧ ¬ (0 ≤ q ∧ q ≤ 4095) ∧ e = .returned (.tuple #[.int .i64 0,.int .i64 5])) ∨
 (chkG c l = 0 ∧ (0 ≤ q ∧ q ≤ 4095) ∧ ∃ rs,e = .returned (.tuple #[.int .i64 (htN rs rs.length),.int .i64 0]) ∧ RwsIs c.toNat l (wdL c.toNat l q) rs))
theorem height_yes (n : Nat) (v : Value) (l : List ByteArray) (q : Int) (hsz : ∀ t ∈ l,t.size ≤ 9223372036854775807) (w : World) (hS : StrsAt w v l) (hz : chkG n l = 0) (hq : 0 ≤ q ∧ q ≤ 4095) :
  Calls Tryz.prog 11 #[.agg #[.int .i64 n,v],.int .i64 q] w (HtEnd n l q w) := by
 have hB0 := (Below.refl w.heap.size w).alloc (Nat.le_refl _) (.cells #[.int .i64 n,v] 24)
 have c0 : (w.alloc (.cells #[.int .i64 n,v] 24)).cell? ⟨w.heap.size,0,none⟩ = some (.int .i64 n) := by rw [Lib.cell_of_heap (World.alloc_heap_new w _)]; rfl
 have c1 : (w.alloc (.cells #[.int .i64 n,v] 24)).cell? ⟨w.heap.size,1,none⟩ = some v := by rw [Lib.cell_of_heap (World.alloc_heap_new w _)]; rfl
 have hcb := chk_all hz
 obtain ⟨n',hn',hn1,hl1,_,_⟩ := chk_ok hz
 have hrows : Hid (Calls Tryz.prog 9 #[.agg #[.int .i64 n,v],.int .i64 q] (w.alloc (.cells #[.int .i64 n,v] 24)) fun e w' => ∃ (u : Option Addr) (cap : Nat) (rs : List Rw),e = .returned (.tuple #[.slice u rs.length cap,.int .i64 0]) ∧ RecAt 3 rwL w' (.slice u rs.length cap) rs ∧ (∀ r ∈ rs,0 ≤ r.h ∧ r.h ≤ 5000) ∧ (∀ r ∈ rs,∃ a1 n1 k1 a2 n2 k2,r.sv = .slice a1 n1 k1 ∧ r.cv = .slice a2 n2 k2) ∧ rs.length ≤ 64 ∧ RwsIs (n : Int).toNat l (wdL (n : Int).toNat l q) rs ∧ Below w.heap.size w w') := by
  refine (rows_yes n v l q hsz _ (hS.below hB0 (Nat.le_refl _)) hz hq).mono ?_
  rintro e w' ⟨hb,(⟨h1,_⟩ | ⟨_,h1,_⟩ | ⟨_,_,u,rs,rfl,hA,hI⟩)⟩
  ·exact absurd hz h1
  ·exact absurd hq h1
  ·obtain ⟨a,cap,rfl⟩ := owns_slice hA.row
   refine ⟨a,cap,rs,rfl,rec_of_row rwL_len rfl hA.row,fun r hr => ?_,fun r hr => ?_,?_,hI,hB0.trans (hb.mono hB0.size)⟩
   ·obtain ⟨i,hi,rfl⟩ := List.getElem_of_mem hr
    exact (hI.rs i hi).rng (ck_cells hcb)
   ·obtain ⟨T,_,h1,_⟩ := (hA.rs r hr).cv
    obtain ⟨x,y,h2⟩ := owns_slice (hA.rs r hr).sp
    exact ⟨_,_,_,_,_,_,h2,h1⟩
   ·have h1 := hI.num
    rw [show ((n : Nat) : Int).toNat = n from rfl] at h1
    have h2 : rs.length * 1 ≤ rs.length * n := Nat.mul_le_mul_left _ (by omega)
    omega
 have hend : Hid (∀ (rs : List Rw) W,RwsIs (n : Int).toNat l (wdL (n : Int).toNat l q) rs → Below w.heap.size w W → HtEnd n l q w (.returned (.tuple #[.int .i64 (htN rs rs.length),.int .i64 0])) W) := fun rs W h1 h2 => ⟨h2,.inr (.inr ⟨hz,hq,rs,rfl,h1⟩)⟩
 generalize HtEnd n l q w = E at *
 clear hB0 hcb hn' hn1 hl1 hS hsz hz
 go_enter Tryz.func11,Tryz.ntmps11
 go_wp2_with (go_at_call 9; refine hrows.out.mono ?_; rintro e w2 ⟨u,cap,rs,rfl,hR,hrg,hsh,h64,hI,hb2⟩; have hRh : Hid (RecAt 3 rwL w2 (.slice u rs.length cap) rs ∧ (∀ r ∈ rs,0 ≤ r.h ∧ r.h ≤ 5000) ∧ (∀ r ∈ rs,∃ a1 n1 k1 a2 n2 k2,r.sv = .slice a1 n1 k1 ∧ r.cv = .slice a2 n2 k2) ∧ RwsIs (n : Int).toNat l (wdL (n : Int).toNat l q) rs ∧ Below w.heap.size w w2) := ⟨hR,hrg,hsh,hI,hb2⟩; clear hR hrg hsh hI hb2 hrows c0 c1)
 go_loopw [8,22] (fun v8 v22 wr => ∃ k : Nat,k ≤ rs.length ∧ v22 = .int .i64 (k : Int) ∧ v8 = .int .i64 (htN rs k) ∧ Hid (Below w2.heap.size w2 wr)) (fun _ v22 _ => rs.length - (intOf v22).toNat)
 case atStart => exact ⟨0,by omega,rfl,rfl,Below.refl _ _⟩
 case round =>
  obtain ⟨k,hk,rfl,rfl,hb⟩ := hrel
  by_cases hlt : k < rs.length
  ·have hlt' : (k : Int) < (rs.length : Int) := by omega
   obtain ⟨hR,hrg,hsh,-,-⟩ := hRh.out
   obtain ⟨b,o,rfl,_,hrow⟩ := RecAt.range (hR.below hb.out (Nat.le_refl _)) hlt
   have hm := List.getElem_mem hlt
   obtain ⟨a1,n1,k1,a2,n2,k2,hv1,hv2⟩ := hsh _ hm
   have hg : rs.getD k rw0 = rs[k] := by rw [List.getD_eq_getElem?_getD,List.getElem?_eq_getElem hlt]; rfl
   have hr1 := hrg _ hm
   have hr2 := htN_rng hrg k (by omega)
   have hnx : Hid (htN rs (k + 1) = htN rs k + rs[k].h) := by show htN rs k + (rs.getD k rw0).h = _; rw [hg]
   have e : rwL rs[k] = [.int .i64 rs[k].h,.slice a1 n1 k1,.slice a2 n2 k2] := by show [_,rs[k].sv,rs[k].cv] = _; rw [hv1,hv2]
   rw [e] at hrow
   have hz0 : (wr.alloc (.cells #[.int .i64 0,.slice none 0 0,.slice none 0 0] 39)).heap[wr.heap.size]? = some (.cells #[.int .i64 0,.slice none 0 0,.slice none 0 0] 39 (0,0)) := World.alloc_heap_new wr _
   have hbb := below_box wr (.cells #[.int .i64 0,.slice none 0 0,.slice none 0 0] 39) #[.int .i64 rs[k].h,.slice a1 n1 k1,.slice a2 n2 k2]
   have hz1 := setRow_heap _ _ _ (#[.int .i64 rs[k].h,.slice a1 n1 k1,.slice a2 n2 k2] : Array Value) _ _ hz0
   have hB5 : Hid (Below w2.heap.size w2 _) := hb.out.trans (hbb.mono hb.out.size)
   clear hR hrg hsh hv1 hv2 hg e hm hbb hend
   generalize rs[k].h = x at *
   generalize htN rs k = y at *
   go_wp2_with (first | (refine wpList_load_mid rfl 39 _ rfl b (o + k * 3) rfl [.int .i64 x,.slice a1 n1 k1,.slice a2 n2 k2] _ hrow Tryz.underlying39 rfl (info39l _ _ _) ?_) | (refine wpList_store_row rfl 39 _ _ rfl wr.heap.size #[.int .i64 x,.slice a1 n1 k1,.slice a2 n2 k2] rfl rfl 39 _ hz0 (info39w _ _ _) rfl (one39 _ _ _ _ _ rfl) ?_; clear hz0 hrow; generalize (wr.alloc (.cells #[.int .i64 0,.slice none 0 0,.slice none 0 0] 39)).setRow wr.heap.size #[.int .i64 x,.slice a1 n1 k1,.slice a2 n2 k2] = w5 at *; have d0 : w5.cell? ⟨wr.heap.size,0,none⟩ = some (.int .i64 x) := by rw [Lib.cell_of_heap hz1]; rfl))
   refine ⟨⟨k + 1,by omega,rfl,?_,hB5.out⟩,by simp [intOf]; omega⟩
   rw [hnx.out]
  ·have hkn : k = rs.length := by omega
   subst hkn
   have hge : ¬ ((rs.length : Nat) : Int) < (rs.length : Int) := by omega
   obtain ⟨-,-,-,hI,hb2⟩ := hRh.out
   have hfin := hend.out rs wr hI (hb2.trans (hb.out.mono hb2.size))
   clear hI hb2 hend
   go_wp2_with fail
   exact hfin
end Go.Proofs.YtaphggjakaghjaaGreatDoor

namespace Go.Proofs.YtaphggjakaghjaaGreatDoor
open Go.RowKit Go.Shelf
set_option maxRecDepth 100000
set_option maxHeartbeats 4000000

theorem XC.below {W W' : World} {T g0 g1 : Nat} {sa : Option Addr} {sc : Nat} {a0 b0 a1 : Lx} (h : XC W T g0 g1 sa sc a0 b0 a1) (hb : Below W.heap.size W W') : XC W' T g0 g1 sa sc a0 b0 a1 :=
 ⟨(hb.cell h.lt).trans h.t0,(hb.cell h.lt).trans h.t1,(hb.cell h.lt).trans h.t2,(hb.cell h.lt).trans h.t3,(hb.cell h.lt).trans h.t4,(hb.cell h.lt).trans h.t5,h.s.below hb (Nat.le_refl _),h.l0.below hb (Nat.le_refl _),h.l1.below hb (Nat.le_refl _),Nat.lt_of_lt_of_le h.lt hb.size⟩
theorem range3 {W : World} {b o : Nat} {x y z : Value} (h0 : W.cell? ⟨b,o,none⟩ = some x) (h1 : W.cell? ⟨b,o + 1,none⟩ = some y) (h2 : W.cell? ⟨b,o + 2,none⟩ = some z) : W.rangeAt b o [x,y,z] := fun j v hv => by
 match j,hv with
 | 0,hv => cases hv; exact h0
 | 1,hv => cases hv; exact h1
 | 2,hv => cases hv; exact h2
theorem load46m {a : Act} {w : World} {b o : Nat} {x y : Int} {v : Value} {oi : Oper} {z : Operand} (h : w.rangeAt b o [.int .i64 x,.int .i64 y,v]) (ho : oi.op = .load 46 z) (hx : a.eval z = .pointer (some ⟨b,o,none⟩)) : (execOp a.eval oi).run Tryz.prog w = .ok (.value (.agg #[.int .i64 x,.int .i64 y,v])) w := by
 have hl := run_loadVar_mid (P := Tryz.prog) w b o 46 [.int .i64 x,.int .i64 y,v] _ h Tryz.underlying46 rfl (info46m _ _ _)
 simp [execOp,ho,hx,Instr.loadAt,Instr.sureAddr,hl]
def opK4 (ps : String) : Array Oper := #[⟨some 27,.fieldAddr 39 (.tmp 1) 2,0,ps,#[],none⟩,⟨some 28,.load 37 (.tmp 27),37,ps,#[⟨0,.data⟩],none⟩,⟨some 29,.indexAddr 37 (.tmp 28) (.const (.int .i64 0)),0,ps,#[⟨1,.data⟩],none⟩,⟨some 30,.load 46 (.tmp 29),46,ps,#[⟨2,.data⟩],none⟩,⟨some 31,.fieldAddr 39 (.tmp 1) 2,0,ps,#[⟨10,.gcOnly .lateStores⟩],none⟩,⟨some 32,.load 37 (.tmp 31),37,ps,#[⟨4,.data⟩,⟨10,.gcOnly .lateStores⟩],none⟩,⟨some 33,.indexAddr 37 (.tmp 32) (.const (.int .i64 1)),0,ps,#[⟨5,.data⟩,⟨10,.gcOnly .lateStores⟩],none⟩,⟨some 34,.load 46 (.tmp 33),46,ps,#[⟨6,.data⟩,⟨10,.gcOnly .lateStores⟩],none⟩,⟨some 3,.alloc 46,0,ps,#[],none⟩,⟨some 4,.alloc 46,0,ps,#[],none⟩,⟨none,.store 46 (.tmp 3) (.tmp 30),0,ps,#[⟨8,.data⟩,⟨3,.data⟩,⟨0,.phase⟩,⟨1,.phase⟩,⟨2,.phase⟩,⟨3,.phase⟩,⟨4,.textOnly .lateStores⟩,⟨5,.textOnly .lateStores⟩,⟨6,.textOnly .lateStores⟩,⟨7,.textOnly .lateStores⟩,⟨8,.phase⟩,⟨9,.phase⟩],none⟩,⟨none,.store 46 (.tmp 4) (.tmp 34),0,ps,#[⟨9,.data⟩,⟨7,.data⟩,⟨10,.chain⟩,⟨0,.phase⟩,⟨1,.phase⟩,⟨2,.phase⟩,⟨3,.phase⟩,⟨4,.phase⟩,⟨5,.phase⟩,⟨6,.phase⟩,⟨7,.phase⟩,⟨8,.phase⟩,⟨9,.phase⟩,⟨10,.phase⟩],none⟩]

theorem xk_r4 (Q : Exit → Act → World → Prop) (hQ : ∀ c x (n : Nat) v w,Q (.panic c) (x.put (some n) v) w → Q (.panic c) x w) (id : Nat) (ps : String) (gB T g0 g1 : Nat) (sa : Option Addr) (sc : Nat) (a0 b0 a1 : Lx) {v0 v2 v5 v6 v7 v8 v9 xa xb xc xd xe xf xg xh xi xj xk xl xm xn xo xp xq xr xt xu xv xw xx xy xz xA xB xC xD xE xF xG xH xI xJ xK xL xM xN xO xP xQ xR xS xT xU xV xW xX xY xZ ya yb yc yd ye yf yg yh yi yj yk yl ym yn yo yp yq yr yt yu yv yw yx yy yz yA yB yC yD yE yF yG yH yI yJ yK yL yM yN yO yP yQ yR yS yT yU yV yW yX yY yZ za zb zc zd ze zf zg zh zi zj zk zl zm zn zo zp zq zr zs zt zu zv zw zx zy zz zA zB zC zD zE zF zG zH zI zJ zK zL zM zN zO zP zQ zR zS zT zU zV zW zX zY zZ qa qb qc qd qf qg qh : Value} (W : World)
  (hbx : W.heap[gB]? = some (.cells #[.int .i64 24,.slice sa 1 sc,.slice (some ⟨T,0,none⟩) 2 2] 39 (0,0))) (hX : XC W T g0 g1 sa sc a0 b0 a1)
  (hK : ∀ g3 g4 W',W.heap.size ≤ g3 → W.heap.size ≤ g4 → W'.heap[g3]? = some (.cells #[.int .i64 0,.int .i64 16,.slice (some ⟨g0,0,none⟩) 2 2] 46 (0,0)) → W'.heap[g4]? = some (.cells #[.int .i64 16,.int .i64 14,.slice (some ⟨g1,0,none⟩) 1 1] 46 (0,0)) → Below W.heap.size W W' → Q .normal { tmps := #[v0,.pointer (some ⟨gB,0,none⟩),v2,.pointer (some ⟨g3,0,none⟩),.pointer (some ⟨g4,0,none⟩),v5,v6,v7,v8,v9,xa,xb,xc,xd,xe,xf,xg,xh,xi,xj,xk,xl,xm,xn,xo,xp,xq,.pointer (some ⟨gB,2,none⟩),.slice (some ⟨T,0,none⟩) 2 2,.pointer (some ⟨T,0,none⟩),.agg #[.int .i64 0,.int .i64 16,.slice (some ⟨g0,0,none⟩) 2 2],.pointer (some ⟨gB,2,none⟩),.slice (some ⟨T,0,none⟩) 2 2,.pointer (some ⟨T,3,none⟩),.agg #[.int .i64 16,.int .i64 14,.slice (some ⟨g1,0,none⟩) 1 1],xr,xt,xu,xv,xw,xx,xy,xz,xA,xB,xC,xD,xE,xF,xG,xH,xI,xJ,xK,xL,xM,xN,xO,xP,xQ,xR,xS,xT,xU,xV,xW,xX,xY,xZ,ya,yb,yc,yd,ye,yf,yg,yh,yi,yj,yk,yl,ym,yn,yo,yp,yq,yr,yt,yu,yv,yw,yx,yy,yz,yA,yB,yC,yD,yE,yF,yG,yH,yI,yJ,yK,yL,yM,yN,yO,yP,yQ,yR,yS,yT,yU,yV,yW,yX,yY,yZ,za,zb,zc,zd,ze,zf,zg,zh,zi,zj,zk,zl,zm,zn,zo,zp,zq,zr,zs,zt,zu,zv,zw,zx,zy,zz,zA,zB,zC,zD,zE,zF,zG,zH,zI,zJ,zK,zL,zM,zN,zO,zP,zQ,zR,zS,zT,zU,zV,zW,zX,zY,zZ,qa,qb,qc,qd,qf,qg,qh],defers := [] } W') :
  (Code.region id (opK4 ps) true).wp Tryz.prog Q { tmps := #[v0,.pointer (some ⟨gB,0,none⟩),v2,undef,undef,v5,v6,v7,v8,v9,xa,xb,xc,xd,xe,xf,xg,xh,xi,xj,xk,xl,xm,xn,xo,xp,xq,undef,undef,undef,undef,undef,undef,undef,undef,xr,xt,xu,xv,xw,xx,xy,xz,xA,xB,xC,xD,xE,xF,xG,xH,xI,xJ,xK,xL,xM,xN,xO,xP,xQ,xR,xS,xT,xU,xV,xW,xX,xY,xZ,ya,yb,yc,yd,ye,yf,yg,yh,yi,yj,yk,yl,ym,yn,yo,yp,yq,yr,yt,yu,yv,yw,yx,yy,yz,yA,yB,yC,yD,yE,yF,yG,yH,yI,yJ,yK,yL,yM,yN,yO,yP,yQ,yR,yS,yT,yU,yV,yW,yX,yY,yZ,za,zb,zc,zd,ze,zf,zg,zh,zi,zj,zk,zl,zm,zn,zo,zp,zq,zr,zs,zt,zu,zv,zw,zx,zy,zz,zA,zB,zC,zD,zE,zF,zG,zH,zI,zJ,zK,zL,zM,zN,zO,zP,zQ,zR,zS,zT,zU,zV,zW,zX,zY,zZ,qa,qb,qc,qd,qf,qg,qh],defers := [] } W := by
 have hS : Below W.heap.size W W.drew := below_drew W
 refine wp_region_held (S := fun w => Below W.heap.size W w) (by kernel_rfl) ?_
 change wpAnyH _ _ _ _ _ 12 _ _ (World.drew W)
 have hlb : gB < W.heap.size := (Array.getElem?_eq_some_iff.1 hbx).1
 generalize W.drew = V at *
 unfold opK4
 refine wpAnyH_take (i := 0) (v := .pointer (some ⟨gB,2,none⟩)) rfl (by kernel_rfl) (by kernel_rfl) (by kernel_rfl) (fun c x w => hQ c x _ _ w) (Or.inl ⟨by rfl,?y0⟩) hS ?_
 case y0 => (intro w' hw'; go_simp)
 go_simp
 refine wpAnyH_take (i := 1) (v := .slice (some ⟨T,0,none⟩) 2 2) rfl (by kernel_rfl) (by kernel_rfl) (by kernel_rfl) (fun c x w => hQ c x _ _ w) (Or.inl ⟨by rfl,?y1⟩) hS ?_
 case y1 => (intro w' hw'; have hbx' := (hw'.block gB hlb).trans hbx; have b2 : w'.cell? ⟨gB,2,none⟩ = some (.slice (some ⟨T,0,none⟩) 2 2) := (Lib.cell_of_heap hbx' _).trans rfl; go_simp)
 go_simp
 refine wpAnyH_take (i := 2) (v := .pointer (some ⟨T,0,none⟩)) rfl (by kernel_rfl) (by kernel_rfl) (by kernel_rfl) (fun c x w => hQ c x _ _ w) (Or.inl ⟨by rfl,?y2⟩) hS ?_
 case y2 => (intro w' hw'; go_simp)
 go_simp
 refine wpAnyH_take (i := 3) (v := .agg #[.int .i64 0,.int .i64 16,.slice (some ⟨g0,0,none⟩) 2 2]) rfl (by kernel_rfl) (by kernel_rfl) (by kernel_rfl) (fun c x w => hQ c x _ _ w) (Or.inl ⟨by rfl,?y3⟩) hS ?_
 case y3 => (intro w' hw'; exact load46m (b := T) (o := 0) (range3 (hX.below hw').t0 (hX.below hw').t1 (hX.below hw').t2) rfl rfl)
 go_simp
 refine wpAnyH_take (i := 4) (v := .pointer (some ⟨gB,2,none⟩)) rfl (by kernel_rfl) (by kernel_rfl) (by kernel_rfl) (fun c x w => hQ c x _ _ w) (Or.inl ⟨by rfl,?y4⟩) hS ?_
 case y4 => (intro w' hw'; go_simp)
 go_simp
 refine wpAnyH_take (i := 5) (v := .slice (some ⟨T,0,none⟩) 2 2) rfl (by kernel_rfl) (by kernel_rfl) (by kernel_rfl) (fun c x w => hQ c x _ _ w) (Or.inl ⟨by rfl,?y5⟩) hS ?_
 case y5 => (intro w' hw'; have hbx' := (hw'.block gB hlb).trans hbx; have b2 : w'.cell? ⟨gB,2,none⟩ = some (.slice (some ⟨T,0,none⟩) 2 2) := (Lib.cell_of_heap hbx' _).trans rfl; go_simp)
 go_simp
 refine wpAnyH_take (i := 6) (v := .pointer (some ⟨T,3,none⟩)) rfl (by kernel_rfl) (by kernel_rfl) (by kernel_rfl) (fun c x w => hQ c x _ _ w) (Or.inl ⟨by rfl,?y6⟩) hS ?_
 case y6 => (intro w' hw'; go_simp)
 go_simp
 refine wpAnyH_take (i := 7) (v := .agg #[.int .i64 16,.int .i64 14,.slice (some ⟨g1,0,none⟩) 1 1]) rfl (by kernel_rfl) (by kernel_rfl) (by kernel_rfl) (fun c x w => hQ c x _ _ w) (Or.inl ⟨by rfl,?y7⟩) hS ?_
 case y7 => (intro w' hw'; exact load46m (b := T) (o := 3) (range3 (hX.below hw').t3 (hX.below hw').t4 (hX.below hw').t5) rfl rfl)
 go_simp
 refine two_h (i := 8) (j := 9) (by kernel_rfl) rfl rfl (by kernel_rfl) (by kernel_rfl) (fun K hK' => ?_) (fun K hK' => ?_)
 ·go_simp
  refine hK' _ _ (hS.alloc hS.size _) ?_
  clear hK' K
  go_simp
  refine want_h (i := 9) (by kernel_rfl) rfl (by kernel_rfl) fun K hK' => ?_
  go_simp
  refine hK' _ _ ((hS.alloc hS.size _).alloc (hS.alloc hS.size _).size _) ?_
  clear hK' K
  go_simp
  have hB2 : Below W.heap.size W ((V.alloc (.cells #[.int .i64 0,.int .i64 0,.slice none 0 0] 46)).alloc (.cells #[.int .i64 0,.int .i64 0,.slice none 0 0] 46)) := (hS.alloc hS.size _).alloc (hS.alloc hS.size _).size _
  have z0 : ((V.alloc (.cells #[.int .i64 0,.int .i64 0,.slice none 0 0] 46)).alloc (.cells #[.int .i64 0,.int .i64 0,.slice none 0 0] 46)).heap[V.heap.size]? = some (.cells #[.int .i64 0,.int .i64 0,.slice none 0 0] 46 (0,0)) := (Below.heap_alloc _ _ _ (by simp)).trans (World.alloc_heap_new V _)
  have z1 : ((V.alloc (.cells #[.int .i64 0,.int .i64 0,.slice none 0 0] 46)).alloc (.cells #[.int .i64 0,.int .i64 0,.slice none 0 0] 46)).heap[V.heap.size + 1]? = some (.cells #[.int .i64 0,.int .i64 0,.slice none 0 0] 46 (0,0)) := alloc2_heap V _ _
  have hv := hS.size
  clear hS
  generalize (V.alloc (.cells #[.int .i64 0,.int .i64 0,.slice none 0 0] 46)).alloc (.cells #[.int .i64 0,.int .i64 0,.slice none 0 0] 46) = w2 at *
  have hT3 := Turns.setRow (X := fun k => k = V.heap.size) w2 (r := V.heap.size) rfl #[.int .i64 0,.int .i64 16,.slice (some ⟨g0,0,none⟩) 2 2]
  have y3 := setRow_heap _ _ _ (#[.int .i64 0,.int .i64 16,.slice (some ⟨g0,0,none⟩) 2 2] : Array Value) _ _ z0
  have y4 := (hT3.block (V.heap.size + 1) (Array.getElem?_eq_some_iff.1 z1).1 (by omega)).trans z1
  have hB3 := hB2.trans (hT3.below hB2.size (fun k hk => by omega))
  refine want_h (i := 10) (by kernel_rfl) rfl (by kernel_rfl) fun K hK' => ?_
  refine wp_store_row 46 _ _ rfl V.heap.size #[.int .i64 0,.int .i64 16,.slice (some ⟨g0,0,none⟩) 2 2] rfl rfl 46 _ z0 (info46 _ _ _) rfl (one46 _ _ _ _ _) ?_
  refine hK' _ _ hB3 ?_
  clear hK' K
  go_simp
  generalize w2.setRow V.heap.size #[.int .i64 0,.int .i64 16,.slice (some ⟨g0,0,none⟩) 2 2] = w3 at *
  have hT4 := Turns.setRow (X := fun k => k = (V.heap.size + 1)) w3 (r := (V.heap.size + 1)) rfl #[.int .i64 16,.int .i64 14,.slice (some ⟨g1,0,none⟩) 1 1]
  have x4 := setRow_heap _ _ _ (#[.int .i64 16,.int .i64 14,.slice (some ⟨g1,0,none⟩) 1 1] : Array Value) _ _ y4
  have x3 := (hT4.block V.heap.size (Array.getElem?_eq_some_iff.1 y3).1 (by omega)).trans y3
  have hB4 := hB3.trans (hT4.below hB3.size (fun k hk => by omega))
  refine want_h (i := 11) (by kernel_rfl) rfl (by kernel_rfl) fun K hK' => ?_
  refine wp_store_row 46 _ _ rfl (V.heap.size + 1) #[.int .i64 16,.int .i64 14,.slice (some ⟨g1,0,none⟩) 1 1] rfl rfl 46 _ y4 (info46 _ _ _) rfl (one46 _ _ _ _ _) ?_
  refine hK' _ _ hB4 ?_
  clear hK' K
  exact wpAnyH_done (by kernel_rfl) (hK V.heap.size (V.heap.size + 1) _ (by omega) (by omega) x3 x4 hB4) _
 ·go_simp
  refine hK' _ _ (hS.alloc hS.size _) ?_
  clear hK' K
  go_simp
  refine want_h (i := 8) (by kernel_rfl) rfl (by kernel_rfl) fun K hK' => ?_
  go_simp
  refine hK' _ _ ((hS.alloc hS.size _).alloc (hS.alloc hS.size _).size _) ?_
  clear hK' K
  go_simp
  have hB2 : Below W.heap.size W ((V.alloc (.cells #[.int .i64 0,.int .i64 0,.slice none 0 0] 46)).alloc (.cells #[.int .i64 0,.int .i64 0,.slice none 0 0] 46)) := (hS.alloc hS.size _).alloc (hS.alloc hS.size _).size _
  have z0 : ((V.alloc (.cells #[.int .i64 0,.int .i64 0,.slice none 0 0] 46)).alloc (.cells #[.int .i64 0,.int .i64 0,.slice none 0 0] 46)).heap[V.heap.size]? = some (.cells #[.int .i64 0,.int .i64 0,.slice none 0 0] 46 (0,0)) := (Below.heap_alloc _ _ _ (by simp)).trans (World.alloc_heap_new V _)
  have z1 : ((V.alloc (.cells #[.int .i64 0,.int .i64 0,.slice none 0 0] 46)).alloc (.cells #[.int .i64 0,.int .i64 0,.slice none 0 0] 46)).heap[V.heap.size + 1]? = some (.cells #[.int .i64 0,.int .i64 0,.slice none 0 0] 46 (0,0)) := alloc2_heap V _ _
  have hv := hS.size
  clear hS
  generalize (V.alloc (.cells #[.int .i64 0,.int .i64 0,.slice none 0 0] 46)).alloc (.cells #[.int .i64 0,.int .i64 0,.slice none 0 0] 46) = w2 at *
  have hT3 := Turns.setRow (X := fun k => k = (V.heap.size + 1)) w2 (r := (V.heap.size + 1)) rfl #[.int .i64 0,.int .i64 16,.slice (some ⟨g0,0,none⟩) 2 2]
  have y3 := setRow_heap _ _ _ (#[.int .i64 0,.int .i64 16,.slice (some ⟨g0,0,none⟩) 2 2] : Array Value) _ _ z1
  have y4 := (hT3.block V.heap.size (Array.getElem?_eq_some_iff.1 z0).1 (by omega)).trans z0
  have hB3 := hB2.trans (hT3.below hB2.size (fun k hk => by omega))
  refine want_h (i := 10) (by kernel_rfl) rfl (by kernel_rfl) fun K hK' => ?_
  refine wp_store_row 46 _ _ rfl (V.heap.size + 1) #[.int .i64 0,.int .i64 16,.slice (some ⟨g0,0,none⟩) 2 2] rfl rfl 46 _ z1 (info46 _ _ _) rfl (one46 _ _ _ _ _) ?_
  refine hK' _ _ hB3 ?_
  clear hK' K
  go_simp
  generalize w2.setRow (V.heap.size + 1) #[.int .i64 0,.int .i64 16,.slice (some ⟨g0,0,none⟩) 2 2] = w3 at *
  have hT4 := Turns.setRow (X := fun k => k = V.heap.size) w3 (r := V.heap.size) rfl #[.int .i64 16,.int .i64 14,.slice (some ⟨g1,0,none⟩) 1 1]
  have x4 := setRow_heap _ _ _ (#[.int .i64 16,.int .i64 14,.slice (some ⟨g1,0,none⟩) 1 1] : Array Value) _ _ y4
  have x3 := (hT4.block (V.heap.size + 1) (Array.getElem?_eq_some_iff.1 y3).1 (by omega)).trans y3
  have hB4 := hB3.trans (hT4.below hB3.size (fun k hk => by omega))
  refine want_h (i := 11) (by kernel_rfl) rfl (by kernel_rfl) fun K hK' => ?_
  refine wp_store_row 46 _ _ rfl V.heap.size #[.int .i64 16,.int .i64 14,.slice (some ⟨g1,0,none⟩) 1 1] rfl rfl 46 _ y4 (info46 _ _ _) rfl (one46 _ _ _ _ _) ?_
  refine hK' _ _ hB4 ?_
  clear hK' K
  exact wpAnyH_done (by kernel_rfl) (hK (V.heap.size + 1) V.heap.size _ (by omega) (by omega) x3 x4 hB4) _
end Go.Proofs.YtaphggjakaghjaaGreatDoor

namespace Go.Proofs.YtaphggjakaghjaaGreatDoor
open Go.RowKit Go.Shelf

theorem strs_nil (w : World) : StrsAt w (.slice none 0 0) [] := ⟨⟨none,0,rfl,.inl rfl⟩,fun a n c e => by cases e; exact Nat.le_refl _⟩

end Go.Proofs.YtaphggjakaghjaaGreatDoor

namespace Go.Proofs.YtaphggjakaghjaaGreatDoor
open Go.RowKit Go.Shelf
set_option maxRecDepth 100000
set_option maxHeartbeats 8000000

def XbEnd (n0 n1 : Nat) (w : World) (e : Ending) (w' : World) : Prop := ∃ (g : Nat) (p r : Option Addr) (m k : Nat),e = .returned (.tuple #[.slice (some ⟨g,0,none⟩) 2 2,.int .i64 0]) ∧ w'.cell? ⟨g,2,none⟩ = some (.slice p n0 m) ∧ w'.cell? ⟨g,5,none⟩ = some (.slice r n1 k) ∧ g < w'.heap.size ∧ Below w.heap.size w w'
theorem xbet {lo : Nat} {T g0 g1 : Nat} {sa : Option Addr} {sc : Nat} {a0 b0 a1 : Lx} (f t : Int) (hft : 0 ≤ f ∧ f ≤ t ∧ t ≤ 24) (n0 n1 : Nat) (h0 : (wiL [a0,b0] f t).length = n0) (h1 : (wiL [a1] f t).length = n1) (W : World) (hA : XAt lo W T g0 g1 sa sc a0 b0 a1) :
  Calls Tryz.prog 21 #[.agg #[.int .i64 24,.slice sa 1 sc,.slice (some ⟨T,0,none⟩) 2 2],.int .i64 f,.int .i64 t] W (XbEnd n0 n1 W) := by
 obtain ⟨r,c0,c1,hR,hX,hS⟩ := hA.ex
 have hC := x_cells hR hX hS
 obtain ⟨T',_,hv,hr⟩ := hR.cv
 rw [hS.cv] at hv
 obtain rfl : T = T' := by simpa using congrArg (fun v => match v with | Value.slice (some a) _ _ => a.block | _ => 0) hv
 rw [hX.cs] at hr
 have hrec : RecAt 3 ceL W (.slice (some ⟨T,0,none⟩) 2 2) [c0,c1] := hr.recs (n := 2) (cap := 2) (Nat.le_refl _) (Nat.le_refl _)
 refine (between_yes 24 (.slice sa 1 sc) (.slice (some ⟨T,0,none⟩) 2 2) [c0,c1] f t hft (by show 2 ≤ 400; omega) (fun c hc => ?_) W hrec (fun c hc => ?_)).mono ?_
 ·simp only [List.mem_cons,List.not_mem_nil,or_false] at hc
  rcases hc with rfl | rfl
  ·rw [hX.l0]; show 2 ≤ 8000; omega
  ·rw [hX.l1]; show 1 ≤ 8000; omega
 ·simp only [List.mem_cons,List.not_mem_nil,or_false] at hc
  rcases hc with rfl | rfl
  ·rw [hS.v0,hX.l0]; exact hC.l0
  ·rw [hS.v1,hX.l1]; exact hC.l1
 ·rintro e w' ⟨⟨g,d,_,rfl,hrb,hd,hi⟩,hb⟩
  obtain ⟨d0,d1,rfl⟩ := list2 hd
  obtain ⟨i0,o0⟩ := hi 0 (by simp)
  obtain ⟨i1,o1⟩ := hi 1 (by simp)
  have e0 : d0.ls = wiL [a0,b0] f t := by have := i0.ls; rw [← hX.l0]; exact this
  have e1 : d1.ls = wiL [a1] f t := by have := i1.ls; rw [← hX.l1]; exact this
  obtain ⟨p,m,v0⟩ := owns_slice o0
  obtain ⟨q,k,v1⟩ := owns_slice o1
  have v0' : d0.v = .slice p n0 m := by rw [← h0,← e0]; exact v0
  have v1' : d1.v = .slice q n1 k := by rw [← h1,← e1]; exact v1
  refine ⟨g,p,q,m,k,rfl,?_,?_,hrb.lt,hb⟩
  ·have := (hrb.all 0 (by simp) 2 d0.v rfl).1
   rw [v0'] at this; exact this
  ·have := (hrb.all 1 (by simp) 2 d1.v rfl).1
   rw [v1'] at this; exact this
theorem xheight (W : World) : Calls Tryz.prog 11 #[.agg #[.int .i64 2,.slice (some ⟨W.heap.size,0,none⟩) 2 2],.int .i64 30] (W.alloc (.cells #[.string { data := #[97,98,32,99] },.string { data := #[100,100] }] 9)) fun e w' => e = .returned (.tuple #[.int .i64 24,.int .i64 0]) ∧ Below W.heap.size W w' := by
 have hB := (Below.refl W.heap.size W).alloc (Nat.le_refl _) (.cells #[.string { data := #[97,98,32,99] },.string { data := #[100,100] }] 9)
 refine (height_yes 2 (.slice (some ⟨W.heap.size,0,none⟩) 2 2) exl 30 ex_small _ (strs_new W exl) ex_ck (by omega)).mono ?_
 rintro e w' ⟨hb,(⟨h1,_⟩ | ⟨_,h1,_⟩ | ⟨_,_,rs,rfl,hI⟩)⟩
 ·exact absurd ex_ck h1
 ·exact absurd (by omega) h1
 ·rw [show ((2 : Nat) : Int).toNat = 2 from rfl,ex_w30.1] at hI
  have hn : rs.length = 1 := by have := hI.num; have e : exl.length = 2 := rfl; rw [e] at this; omega
  obtain ⟨r,rfl⟩ := list1 hn
  obtain ⟨a0,b0,a1,c0,c1,hX⟩ := x_row (hI.rs 0 (by simp))
  have hh : r.h = 24 := hX.h
  have e : htN [r] [r].length = 24 := by show (0 : Int) + r.h = 24; rw [hh]; rfl
  rw [e]
  exact ⟨rfl,hB.trans (hb.mono hB.size)⟩
theorem xnone (W : World) : Calls Tryz.prog 9 #[.agg #[.int .i64 0,.slice none 0 0],.int .i64 30] W fun e w' => e = .returned (.tuple #[.slice none 0 0,.int .i64 2]) ∧ Below W.heap.size W w' := by
 have hz : chkG 0 [] = 2 := by kernel_rfl
 refine (rows_no 0 (.slice none 0 0) [] 30 (by decide) (fun t ht => by cases ht) W (strs_nil W) (fun h => by rw [hz] at h; omega)).mono ?_
 rintro e w' ⟨hb,(⟨_,rfl⟩ | ⟨h1,_⟩ | ⟨h1,_⟩)⟩
 ·rw [hz]; exact ⟨rfl,hb⟩
 ·rw [hz] at h1; omega
 ·rw [hz] at h1; omega
theorem wi_a (a0 b0 : Lx) : (wiL [a0,b0] 0 12).length = 1 := rfl
theorem wi_b (a1 : Lx) : (wiL [a1] 0 12).length = 1 := rfl
theorem wi_c (a0 b0 : Lx) : (wiL [a0,b0] 12 24).length = 1 := rfl
theorem wi_d (a1 : Lx) : (wiL [a1] 12 24).length = 0 := rfl
theorem known5 (w : World) : Calls Tryz.prog 5 #[] w fun e w' => e = .returned (.bool true) ∧ Below w.heap.size w w' := by
 have hcall := xrows_at w
 have hno : Hid (∀ W T sa sc,Calls Tryz.prog 21 #[.agg #[.int .i64 24,.slice sa 1 sc,.slice (some ⟨T,0,none⟩) 2 2],.int .i64 5,.int .i64 3] W fun e w' => e = .returned (.tuple #[.slice none 0 0,.int .i64 5]) ∧ Below W.heap.size W w') := fun W T sa sc => between_no _ _ _ _ _ (by omega) W
 go_enter Tryz.func5,Tryz.ntmps5
 go_wp2_with (first | (go_at_call 24; refine hcall.mono ?_; rintro e w2 ⟨T,g0,g1,sa,sc,a0,b0,a1,rfl,hX,hq,hb2⟩; have hXh : Hid (∀ W,Below w2.heap.size w2 W → XAt (w.heap.size + 1) W T g0 g1 sa sc a0 b0 a1) := fun W hb => hX.below hb; have hqh : Hid (xQ a0 b0) := hq; have hb2h : Hid (Below w.heap.size w w2) := hb2; clear hX hcall hq hb2) | (go_at_call 19; refine (awake19 _).mono ?_; rintro e w3 ⟨rfl,hb3⟩; have hB3 : Hid (Below w2.heap.size w2 w3) := ((Below.refl w2.heap.size w2).alloc (Nat.le_refl _) _).trans (hb3.mono (by simp)); have hbx3 : Hid (w3.heap[w2.heap.size]? = some (.cells #[.int .i64 24,.slice sa 1 sc,.slice (some ⟨T,0,none⟩) 2 2] 39 (0,0))) := (hb3.block _ (by simp)).trans (World.alloc_heap_new w2 _); clear hb3))
 refine xk_r4 _ ?_ _ _ w2.heap.size T g0 g1 sa sc a0 b0 a1 w3 hbx3.out (hXh.out w3 hB3.out).c ?_
 ·exact fun _ _ _ _ _ h => h
 intro g3 g4 w4 hg3 hg4 k3 k4 hb4
 have hB4 : Hid (Below w2.heap.size w2 w4) := hB3.out.trans (hb4.mono hB3.out.size)
 have hX4 := (hXh.out w4 hB4.out).c
 obtain ⟨qa,qb,qc,qd⟩ := hqh.out
 have c0 : w4.cell? ⟨g3,0,none⟩ = some (.int .i64 0) := by rw [Lib.cell_of_heap k3]; rfl
 have c1 : w4.cell? ⟨g3,1,none⟩ = some (.int .i64 16) := by rw [Lib.cell_of_heap k3]; rfl
 have c2 : w4.cell? ⟨g3,2,none⟩ = some (.slice (some ⟨g0,0,none⟩) 2 2) := by rw [Lib.cell_of_heap k3]; rfl
 have d0 : w4.cell? ⟨g4,0,none⟩ = some (.int .i64 16) := by rw [Lib.cell_of_heap k4]; rfl
 have d1 : w4.cell? ⟨g4,1,none⟩ = some (.int .i64 14) := by rw [Lib.cell_of_heap k4]; rfl
 have hl0 : ∀ i (hi : i < [a0,b0].length) j v,(lxL [a0,b0][i])[j]? = some v → w4.cell? ⟨g0,i * 7 + j,none⟩ = some v := fun i hi j v hv => by
  obtain ⟨b,o,e,_,hr⟩ := RecAt.range hX4.l0 hi
  cases e
  have := hr j v hv
  rwa [Nat.zero_add] at this
 have l0 : w4.cell? ⟨g0,0,none⟩ = some (.int .i64 0) := by have := hl0 0 (by simp) 0 _ rfl; rw [show ([a0,b0][0]).f = 0 from qa] at this; exact this
 have l1 : w4.cell? ⟨g0,1,none⟩ = some (.int .i64 3) := by have := hl0 0 (by simp) 1 _ rfl; rw [show ([a0,b0][0]).t = 3 from qb] at this; exact this
 have l8 : w4.cell? ⟨g0,8,none⟩ = some (.int .i64 4) := by have := hl0 1 (by simp) 1 _ rfl; rw [show ([a0,b0][1]).t = 4 from qc] at this; exact this
 have l9 : w4.cell? ⟨g0,9,none⟩ = some (.int .i64 2) := by have := hl0 1 (by simp) 2 _ rfl; rw [show ([a0,b0][1]).x = 2 from qd] at this; exact this
 have kb4 : Hid (w4.heap[w2.heap.size]? = some (.cells #[.int .i64 24,.slice sa 1 sc,.slice (some ⟨T,0,none⟩) 2 2] 39 (0,0))) := (hb4.block _ (Array.getElem?_eq_some_iff.1 hbx3.out).1).trans hbx3.out
 have hs24 : w2.heap.size < w4.heap.size := (Array.getElem?_eq_some_iff.1 kb4.out).1
 have hh := xheight w4
 have hf1 : Hid (∀ W,Below w2.heap.size w2 W → Calls Tryz.prog 21 #[.agg #[.int .i64 24,.slice sa 1 sc,.slice (some ⟨T,0,none⟩) 2 2],.int .i64 0,.int .i64 12] W (XbEnd 1 1 W)) := fun W hb => xbet 0 12 (by omega) 1 1 (wi_a _ _) (wi_b _) W (hXh.out W hb)
 have hf2 : Hid (∀ W,Below w2.heap.size w2 W → Calls Tryz.prog 21 #[.agg #[.int .i64 24,.slice sa 1 sc,.slice (some ⟨T,0,none⟩) 2 2],.int .i64 12,.int .i64 24] W (XbEnd 1 0 W)) := fun W hb => xbet 12 24 (by omega) 1 0 (wi_c _ _) (wi_d _) W (hXh.out W hb)
 have hB4w : Hid (Below w.heap.size w w4) := hb2h.out.trans (hB4.out.mono hb2h.out.size)
 clear hl0 qa qb qc qd hqh hX4 hXh k3 k4 hbx3 hB3 hb2h hb4 hg3 hg4
 go_wp2_with (first
  | (go_at_call 11; refine hh.mono ?_; rintro e w5 ⟨rfl,hb5⟩; have hB5 : Hid (Below w2.heap.size w2 w5) := hB4.out.trans (hb5.mono hB4.out.size); have kb : w5.heap[w2.heap.size]? = some (.cells #[.int .i64 24,.slice sa 1 sc,.slice (some ⟨T,0,none⟩) 2 2] 39 (0,0)) := (hb5.block _ hs24).trans kb4.out; have hb45 : Hid (Below w4.heap.size w4 w5) := hb5; clear hh c0 c1 c2 d0 d1 l0 l1 l8 l9 hb5)
  | (refine wpList_load_row rfl 39 _ rfl w2.heap.size rfl 39 _ (0,0) _ kb Tryz.underlying39 rfl (info39w _ _ _) ?_)
  | (go_at_call 21; refine (hf1.out w5 hB5.out).mono ?_; rintro e w6 ⟨gu,pu,ru,mu,ku,rfl,u2,u5,hgu,hb6⟩; have hB6 : Hid (Below w2.heap.size w2 w6) := hB5.out.trans (hb6.mono hB5.out.size); have kc : w6.heap[w2.heap.size]? = some (.cells #[.int .i64 24,.slice sa 1 sc,.slice (some ⟨T,0,none⟩) 2 2] 39 (0,0)) := (hb6.block _ (Array.getElem?_eq_some_iff.1 kb).1).trans kb; have hu6 : Hid (w6.cell? ⟨gu,2,none⟩ = some (.slice pu 1 mu) ∧ w6.cell? ⟨gu,5,none⟩ = some (.slice ru 1 ku) ∧ gu < w6.heap.size) := ⟨u2,u5,hgu⟩; have hb46 : Hid (Below w4.heap.size w4 w6) := hb45.out.trans (hb6.mono hb45.out.size); clear hf1 kb u2 u5 hgu hb6 hB5 hb45)
  | (refine wpList_load_row rfl 39 _ rfl w2.heap.size rfl 39 _ (0,0) _ kc Tryz.underlying39 rfl (info39w _ _ _) ?_)
  | (go_at_call 21; refine (hf2.out w6 hB6.out).mono ?_; rintro e w7 ⟨gv,pv,rv,mv,kv,rfl,v2,v5,hgv,hb7⟩; have kd : w7.heap[w2.heap.size]? = some (.cells #[.int .i64 24,.slice sa 1 sc,.slice (some ⟨T,0,none⟩) 2 2] 39 (0,0)) := (hb7.block _ (Array.getElem?_eq_some_iff.1 kc).1).trans kc; have hu7 : Hid ((w7.cell? ⟨gu,2,none⟩ = some (.slice pu 1 mu) ∧ w7.cell? ⟨gu,5,none⟩ = some (.slice ru 1 ku) ∧ gu < w7.heap.size) ∧ (w7.cell? ⟨gv,2,none⟩ = some (.slice pv 1 mv) ∧ w7.cell? ⟨gv,5,none⟩ = some (.slice rv 0 kv) ∧ gv < w7.heap.size)) := ⟨⟨(hb7.cell hu6.out.2.2).trans hu6.out.1,(hb7.cell hu6.out.2.2).trans hu6.out.2.1,Nat.lt_of_lt_of_le hu6.out.2.2 hb7.size⟩,v2,v5,hgv⟩; have hb47 : Hid (Below w4.heap.size w4 w7) := hb46.out.trans (hb7.mono hb46.out.size); clear hf2 kc v2 v5 hgv hb7 hB6 hb46 hu6)
  | (refine wpList_load_row rfl 39 _ rfl w2.heap.size rfl 39 _ (0,0) _ kd Tryz.underlying39 rfl (info39w _ _ _) ?_)
  | (go_at_call 21; refine (hno.out w7 T sa sc).mono ?_; rintro e w8 ⟨rfl,hb8⟩; have hu8 : Hid ((w8.cell? ⟨gu,2,none⟩ = some (.slice pu 1 mu) ∧ w8.cell? ⟨gu,5,none⟩ = some (.slice ru 1 ku) ∧ gu < w8.heap.size) ∧ (w8.cell? ⟨gv,2,none⟩ = some (.slice pv 1 mv) ∧ w8.cell? ⟨gv,5,none⟩ = some (.slice rv 0 kv) ∧ gv < w8.heap.size)) := ⟨⟨(hb8.cell hu7.out.1.2.2).trans hu7.out.1.1,(hb8.cell hu7.out.1.2.2).trans hu7.out.1.2.1,Nat.lt_of_lt_of_le hu7.out.1.2.2 hb8.size⟩,(hb8.cell hu7.out.2.2.2).trans hu7.out.2.1,(hb8.cell hu7.out.2.2.2).trans hu7.out.2.2.1,Nat.lt_of_lt_of_le hu7.out.2.2.2 hb8.size⟩; have hb48 : Hid (Below w4.heap.size w4 w8) := hb47.out.trans (hb8.mono hb47.out.size); clear hno kd hb8 hb47 hu7)
  | (go_at_call 9; refine (xnone w8).mono ?_; rintro e w9 ⟨rfl,hb9⟩; have m1 := (hb9.cell hu8.out.1.2.2).trans hu8.out.1.1; have m2 := (hb9.cell hu8.out.1.2.2).trans hu8.out.1.2.1; have m3 := (hb9.cell hu8.out.2.2.2).trans hu8.out.2.1; have m4 := (hb9.cell hu8.out.2.2.2).trans hu8.out.2.2.1; have hb49 : Hid (Below w4.heap.size w4 w9) := hb48.out.trans (hb9.mono hb48.out.size); clear hb9 hb48 hu8))
 go_ret
 exact ⟨rfl,hB4w.out.trans (hb49.out.mono hB4w.out.size)⟩
end Go.Proofs.YtaphggjakaghjaaGreatDoor
