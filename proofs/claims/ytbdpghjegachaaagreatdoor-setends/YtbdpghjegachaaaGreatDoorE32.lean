/-
  What is proved here: Place, from the line's record on.
  What is proved here: Place, from the drop capital on.
-/
import Derived.Test.YtbdpghjegachaaaGreatDoorE31
import Derived.Test.YtbdpghjegachaaaGreatDoorE5
namespace Go.Proofs.YtbdpghjegachaaaGreatDoor
open Go.RowKit Go.Shelf
set_option maxRecDepth 100000
set_option maxHeartbeats 4000000

def rest12 : Code := (Code.region 12 #[⟨some 85,.move (.tmp 8),48,"set.go:55",#[],none⟩,⟨some 86,.move (.tmp 10),3,"set.go:55",#[],none⟩,⟨some 87,.move (.tmp 12),3,"set.go:55",#[],none⟩,⟨some 88,.slice 48 (.tmp 85) (some (.tmp 86)) (some (.tmp 87)) none,48,"set.go:55",#[⟨0,.data⟩,⟨1,.data⟩,⟨2,.data⟩],none⟩,⟨some 89,.fieldAddr 29 (.tmp 4) 2,0,"set.go:55",#[],none⟩,⟨some 90,.load 3 (.tmp 89),3,"set.go:55",#[⟨4,.data⟩],none⟩,⟨some 91,.move (.tmp 2),4,"set.go:55",#[],none⟩,⟨some 92,.build 60 #[(0,.tmp 88),(2,.tmp 90),(5,.tmp 91)],60,"set.go:55",#[⟨3,.data⟩,⟨5,.data⟩,⟨6,.data⟩],none⟩,⟨some 15,.alloc 60,0,"set.go:55",#[],none⟩,⟨none,.store 60 (.tmp 15) (.tmp 92),0,"set.go:55",#[⟨8,.data⟩,⟨7,.data⟩,⟨0,.phase⟩,⟨1,.phase⟩,⟨2,.phase⟩,⟨3,.phase⟩,⟨4,.phase⟩,⟨5,.phase⟩,⟨6,.phase⟩,⟨7,.phase⟩,⟨8,.phase⟩],none⟩] true).seq ((Code.region 13 #[⟨some 93,.fieldAddr 29 (.tmp 4) 0,0,"set.go:56",#[],none⟩,⟨some 94,.load 3 (.tmp 93),3,"set.go:56",#[⟨0,.data⟩],none⟩,⟨some 95,.binOp .eql 3 (.tmp 94) (.const (.int .i64 0)) 3,4,"set.go:56",#[⟨1,.data⟩],none⟩,⟨some 96,.call ⟨.value (.func 26),#[.tmp 15,.tmp 95],#[60,4]⟩,0,"set.go:56",#[⟨2,.data⟩],none⟩] false).seq ((Code.region 14 #[⟨some 97,.load 27 (.tmp 3),27,"set.go:57",#[],none⟩,⟨some 98,.call ⟨.value (.func 27),#[.tmp 15,.tmp 97],#[60,27]⟩,0,"set.go:57",#[⟨0,.data⟩],none⟩] false).seq rest15))
def PartOk (a : Pa) (Cq : Int → Prop) (pn : Int → Bool) (w0 : World) : Prop := ∀ (w : World) (r g o N cap : Nat) (M : Nat → Ms) (av : Option Addr) (vb : Value) (x hy rm : Int) (l : Bool),(0 < N → av = some ⟨g,o,none⟩) → N ≤ cap → N ≤ 4096 → (∀ i,i < N → Cq (M i).q) → (0 < N → w0.heap.size ≤ g) → Below w0.heap.size w0 w → PaAt w a → RF w g o N M → RW w r (.slice av N cap) vb x hy rm l → ¬ XG g N r →
 Calls Tryz.prog 27 #[.pointer (some ⟨r,0,none⟩),.agg (paC a)] w fun e w' => e = .returned (.tuple #[]) ∧ Turns (XG g N) w w' ∧ RF w' g o N (ptM pn M)
def seM (l : Ln) (pn : Int → Bool) (M : Nat → Ms) (N : Nat) : Nat → Ms := ptM pn (loM (l.f == 0) M N)
def lnL (a : Pa) (l : Ln) (last : Bool) (pn : Int → Bool) (M : Nat → Ms) (N : Nat) (L : List Gl) : List Gl := fiL a l last (seM l pn M N) (fwN (l.f == 0) M (toN M N)) (toN M N - fwN (l.f == 0) M (toN M N)) N (hyI a l (seM l pn M N) N) L
theorem place_a (a : Pa) (l : Ln) (w0 : World) (Pb Lb g n0 cap0 f0 t0 base : Nat) (MA : Nat → Ms) (last : Bool) (v : Value) (L : List Gl) (av : Option Addr) (Cq : Int → Prop) (pn : Int → Bool) (hpart : PartOk a Cq pn w0) (hA0 : PaAt w0 a) (hav : 0 < n0 → av = some ⟨g,0,none⟩) (hcap : n0 ≤ cap0) (hn0 : n0 ≤ 4096) (hL : L.length ≤ 1) (hf0 : f0 ≤ t0) (ht0 : t0 ≤ n0) (hM : ∀ i,i < n0 → MsOk (MA i)) (hCq : ∀ i,i < n0 → Cq (MA i).q) (hal : 0 ≤ a.p.p2 ∧ a.p.p2 ≤ 3) (hlx : 0 ≤ l.x ∧ l.x ≤ 4095) (hlw : 0 ≤ l.w ∧ l.w ≤ 4095)
  (W : World) (hP : PS w0 a l Pb Lb base v L W) (hR : RF W g 0 n0 MA) (hg : 0 < n0 → w0.heap.size ≤ g ∧ g ≠ Pb ∧ g ≠ Lb ∧ v.ownBlock ≠ some g)
  (RR : Ending → World → Prop) (hfin : ∀ v' W',W'.ownsRow base 41 4 v' (lnL a l last pn (fun i => MA (f0 + i)) (t0 - f0) L).length ((lnL a l last pn (fun i => MA (f0 + i)) (t0 - f0) L).flatMap glL) → Below w0.heap.size w0 W' → RR (.returned (.tuple #[v',.int .i64 0])) W') (v0 v1 v5 v6 v7 v9 xb xd xe xf xg xh xi xj xk xl xm xn xo xp xq xr xt xu xv xw xx xy xz xA xB xC xD xE xF xG xH xI xJ xK xL xM xN xO xP xQ xR xS xT xU xV xW xX xY xZ ya yb yc yd ye yf yg yh yi yj yk yl ym yn yo yp yq yr yt yu yv yw yx yy yz yA yB yC yD yE yF yG yH yI yJ yK yL yM yN yO yP yQ yR yS yT yU yV yW yX yY yZ za zb zc zd ze zf zg zh zi zj zk zl zm zn zo zp zq zr zs zt zu zv zw zx zy zz : Value) :
  rest12.wp Tryz.prog (bodyPost Tryz.prog Tryz.f8 RR) (fr8 v0 v1 (.bool last) (.pointer (some ⟨Pb,0,none⟩)) (.pointer (some ⟨Lb,0,none⟩)) v5 v6 v7 (.slice av n0 cap0) v9 (.int .i64 (f0 : Nat)) xb (.int .i64 (t0 : Nat)) xd v xe xf xg xh xi xj xk xl xm xn xo xp xq xr xt xu xv xw xx xy xz xA xB xC xD xE xF xG xH xI xJ xK xL xM xN xO xP xQ xR xS xT xU xV xW xX xY xZ ya yb yc yd ye yf yg yh yi yj yk yl ym yn yo yp yq yr yt yu yv yw yx yy yz yA yB yC yD yE yF yG yH yI yJ yK yL yM yN yO yP yQ yR yS yT yU yV yW yX yY yZ za zb zc zd ze zf zg zh zi zj zk zl zm zn zo zp zq zr zs zt zu zv zw zx zy zz) W := by
 obtain ⟨a6,h6,k6⟩ := slice48 av n0 cap0 f0 t0 hf0 (by omega)
 unfold rest12
 refine wp_seq_k ?_
 intro K hK
 refine pl_r12 _ (fun _ _ _ _ _ h => h) _ _ l last Lb n0 cap0 f0 t0 av a6 W hP.drew.lb h6 ?_
 intro W1 hb1 hr1
 refine hK _ _ ?_
 clear hK K
 have hP1 := hP.below hb1
 have hR1 : RF W1 g (0 + f0 * 6) (t0 - f0) (fun i => MA (f0 + i)) := (hR.below hb1 (fun h => hR.lt h)).part (by omega)
 have hW1 : RW W1 W.heap.size (.slice a6 (t0 - f0) (cap0 - f0)) (.slice none 0 0) l.x 0 0 last := ⟨hr1⟩
 have hl1 := hP.pb.lt
 have hl2 := hP.lb.lt
 have hSep : Sep w0 W.heap.size g (t0 - f0) Pb Lb v := ⟨by omega,by omega,hP.low.size,fun h => by
  have h1 := hg (by omega)
  have h2 := hR.lt (by omega)
  exact ⟨h1.1,h1.2.1,h1.2.2.1,by omega⟩,fun e => by have := (hP.row.lt _ e).2; omega,fun h => (hg (by omega)).2.2.2⟩
 have ha6 : 0 < t0 - f0 → a6 = some ⟨g,0 + f0 * 6,none⟩ := fun h => k6 g 0 (hav (by omega)) (by omega)
 have hQ1 : QS w0 a l Pb Lb base v L W.heap.size g (0 + f0 * 6) (t0 - f0) (cap0 - f0) a6 (.slice none 0 0) l.x 0 0 last (fun i => MA (f0 + i)) W1 := ⟨hP1,hW1,hR1⟩
 have hlv := leave_any W1 W.heap.size g (0 + f0 * 6) (t0 - f0) (cap0 - f0) (fun i => MA (f0 + i)) a6 ha6 (by omega) (by omega) (.slice none 0 0) l.x 0 0 last (l.f == 0) hR1 hW1 hSep.rg
 have hMs : ∀ i,i < t0 - f0 → MsOk (MA (f0 + i)) := fun i hi => hM _ (by omega)
 have hC : ∀ i,i < t0 - f0 → Cq (MA (f0 + i)).q := fun i hi => hCq _ (by omega)
 unfold lnL at hfin
 generalize hMe : (fun i => MA (f0 + i)) = M at *
 have hMs' : ∀ i,i < t0 - f0 → MsOk (M i) := fun i hi => by rw [← hMe]; exact hMs i hi
 have hC' : ∀ i,i < t0 - f0 → Cq (M i).q := fun i hi => by rw [← hMe]; exact hC i hi
 have htl := toN_le M (t0 - f0)
 have hfl := fwN_le (l.f == 0) M (toN M (t0 - f0))
 have hnx : Hid (∀ W2,LvEnd W1 W.heap.size g (0 + f0 * 6) (t0 - f0) (cap0 - f0) M a6 l.x 0 0 last (toN M (t0 - f0)) (fwN (l.f == 0) M (toN M (t0 - f0))) W2 → PB W2 Pb a ∧ Calls Tryz.prog 27 #[.pointer (some ⟨W.heap.size,0,none⟩),.agg (paC a)] W2 fun e w' => e = .returned (.tuple #[]) ∧ Hid (∀ v0 v1 v2 v5 v6 v7 v8 v9 xa xb xc xd xf xg xh xi xj xk xl xm xn xo xp xq xr xt xu xv xw xx xy xz xA xB xC xD xE xF xG xH xI xJ xK xL xM xN xO xP xQ xR xS xT xU xV xW xX xY xZ ya yb yc yd ye yf yg yh yi yj yk yl ym yn yo yp yq yr yt yu yv yw yx yy yz yA yB yC yD yE yF yG yH yI yJ yK yL yM yN yO yP yQ yR yS yT yU yV yW yX yY yZ za zb zc zd ze zf zg zh zi zj zk zl zm zn zo zp zq zr zs zt zu zv zw zx zy zz : Value,rest15.wp Tryz.prog (bodyPost Tryz.prog Tryz.f8 RR) (fr8 v0 v1 v2 (.pointer (some ⟨Pb,0,none⟩)) (.pointer (some ⟨Lb,0,none⟩)) v5 v6 v7 v8 v9 xa xb xc xd v (.pointer (some ⟨W.heap.size,0,none⟩)) xf xg xh xi xj xk xl xm xn xo xp xq xr xt xu xv xw xx xy xz xA xB xC xD xE xF xG xH xI xJ xK xL xM xN xO xP xQ xR xS xT xU xV xW xX xY xZ ya yb yc yd ye yf yg yh yi yj yk yl ym yn yo yp yq yr yt yu yv yw yx yy yz yA yB yC yD yE yF yG yH yI yJ yK yL yM yN yO yP yQ yR yS yT yU yV yW yX yY yZ za zb zc zd ze zf zg zh zi zj zk zl zm zn zo zp zq zr zs zt zu zv zw zx zy zz) w')) := fun W2 hE => by
  obtain ⟨hT2,hR2,a',cap',hW2,ha',hc'⟩ := hE
  have hP2 : PS w0 a l Pb Lb base v L W2 := hP1.turns hT2 (fun k hk => by
   rcases hk with hk | hk
   ·obtain ⟨e1,e2⟩ := hk
    subst e1
    have := hSep.gg e2
    exact ⟨this.1,this.2.1,this.2.2.1⟩
   ·subst hk
    exact ⟨hSep.r0,hSep.rP,hSep.rL⟩) (fun k hk hX => by
   rcases hX with hX | hX
   ·obtain ⟨e1,e2⟩ := hX
    subst e1
    exact hSep.vg e2 hk
   ·subst hX
    exact hSep.vr hk)
  have hlo : ∀ i,i < t0 - f0 → MsOk (loM (l.f == 0) M (t0 - f0) i) := fun i hi => loM_ok hi (hMs' i hi)
  refine ⟨hP2.pb,(hpart W2 W.heap.size g (0 + f0 * 6) (t0 - f0) (cap0 - f0) (loM (l.f == 0) M (t0 - f0)) a6 _ l.x 0 0 last ha6 (by omega) (by omega) (fun i hi => by rw [(loM_k _ _ _ _).2.2.1]; exact hC' i hi) (fun h => (hSep.gg h).1) hP2.low (hA0.below hP2.low (Nat.le_refl _)) hR2 hW2 hSep.rg).mono ?_⟩
  rintro e W3 ⟨rfl,hT3,hR3⟩
  have hQ2 : QS w0 a l Pb Lb base v L W.heap.size g (0 + f0 * 6) (t0 - f0) (cap0 - f0) a6 (.slice a' (toN M (t0 - f0) - fwN (l.f == 0) M (toN M (t0 - f0))) cap') l.x 0 0 last (loM (l.f == 0) M (t0 - f0)) W2 := ⟨hP2,hW2,hR2⟩
  have hQ3 := hQ2.mass hSep hT3 hR3
  refine ⟨rfl,fun v0 v1 v2 v5 v6 v7 v8 v9 xa xb xc xd xf xg xh xi xj xk xl xm xn xo xp xq xr xt xu xv xw xx xy xz xA xB xC xD xE xF xG xH xI xJ xK xL xM xN xO xP xQ xR xS xT xU xV xW xX xY xZ ya yb yc yd ye yf yg yh yi yj yk yl ym yn yo yp yq yr yt yu yv yw yx yy yz yA yB yC yD yE yF yG yH yI yJ yK yL yM yN yO yP yQ yR yS yT yU yV yW yX yY yZ za zb zc zd ze zf zg zh zi zj zk zl zm zn zo zp zq zr zs zt zu zv zw zx zy zz => ?_⟩
  exact place_b a l w0 Pb Lb W.heap.size g (0 + f0 * 6) (t0 - f0) (cap0 - f0) base (fwN (l.f == 0) M (toN M (t0 - f0))) (toN M (t0 - f0) - fwN (l.f == 0) M (toN M (t0 - f0))) cap' (0 + f0 * 6 + fwN (l.f == 0) M (toN M (t0 - f0)) * 6) (seM l pn M (t0 - f0)) last v L a6 a' ha6 (by omega) (by omega) hL rfl (by omega) ha' hc' (fun i hi => ptM_ok (hlo i hi)) hal hlx hlw hSep W3 hQ3 RR hfin v0 v1 v2 v5 v6 v7 v8 v9 xa xb xc xd xf xg xh xi xj xk xl xm xn xo xp xq xr xt xu xv xw xx xy xz xA xB xC xD xE xF xG xH xI xJ xK xL xM xN xO xP xQ xR xS xT xU xV xW xX xY xZ ya yb yc yd ye yf yg yh yi yj yk yl ym yn yo yp yq yr yt yu yv yw yx yy yz yA yB yC yD yE yF yG yH yI yJ yK yL yM yN yO yP yQ yR yS yT yU yV yW yX yY yZ za zb zc zd ze zf zg zh zi zj zk zl zm zn zo zp zq zr zs zt zu zv zw zx zy zz
 have hl0 := hP1.lb.c0
 clear hfin hpart hQ1 hM hCq hMs hC hMs' hC' hMe hSep hR1 hW1 hP1 hP hR h6 k6 hr1 hg hav hA0
 generalize W.heap.size = rr at *
 unfold fr8
 unfold fr8 at hnx
 go_wp2_with (first | (go_at_call 26; refine hlv.mono ?_; rintro e W2 ⟨rfl,hE⟩; obtain ⟨hpb,hc2⟩ := hnx.out W2 hE; clear hlv hE hnx) | (refine wpList_load_row rfl 27 _ rfl Pb rfl 27 _ (0,0) _ hpb.row Tryz.underlying27 rfl (info34 a) ?_) | (go_at_call 27; refine hc2.mono ?_; rintro e W3 ⟨rfl,hend⟩; clear hc2))
 exact hend.out _ _ _ _ _ _ _ _ _ _ _ _ _ _ _ _ _ _ _ _ _ _ _ _ _ _ _ _ _ _ _ _ _ _ _ _ _ _ _ _ _ _ _ _ _ _ _ _ _ _ _ _ _ _ _ _ _ _ _ _ _ _ _ _ _ _ _ _ _ _ _ _ _ _ _ _ _ _ _ _ _ _ _ _ _ _ _ _ _ _ _ _ _ _ _ _ _ _ _ _ _ _ _ _ _ _ _ _ _ _ _ _ _ _ _ _ _ _ _ _ _ _ _ _ _ _ _ _ _ _ _ _ _ _ _
end Go.Proofs.YtbdpghjegachaaaGreatDoor

namespace Go.Proofs.YtbdpghjegachaaaGreatDoor
open Go.RowKit Go.Shelf
set_option maxRecDepth 100000
set_option maxHeartbeats 4000000

def restP8 : Code := (Code.region 8 #[⟨some 14,.assign (.const (.slice none 0 0)),31,"set.go:50",#[],none⟩] false).seq (((Code.region 9 #[⟨some 64,.move (.tmp 10),3,"set.go:51",#[],none⟩,⟨some 65,.binOp .eql 3 (.tmp 64) (.const (.int .i64 0)) 3,4,"set.go:51",#[⟨0,.data⟩],none⟩,⟨some 66,.move (.tmp 65),4,"set.go:51",#[⟨1,.data⟩],none⟩,⟨some 67,.move (.tmp 12),3,"set.go:51",#[⟨2,.guard⟩],some (2,true)⟩,⟨some 68,.binOp .gtr 3 (.tmp 67) (.const (.int .i64 0)) 3,4,"set.go:51",#[⟨3,.data⟩,⟨2,.guard⟩],some (2,true)⟩,⟨some 69,.pick (.tmp 66) (.tmp 68) (.const (.bool false)),4,"set.go:51",#[⟨2,.data⟩,⟨4,.data⟩],none⟩,⟨some 70,.move (.tmp 69),4,"set.go:51",#[⟨5,.data⟩,⟨2,.chain⟩],none⟩,⟨some 71,.load 27 (.tmp 3),27,"set.go:51",#[⟨6,.guard⟩],some (6,true)⟩,⟨some 72,.move (.tmp 8),48,"set.go:51",#[⟨6,.guard⟩],some (6,true)⟩,⟨some 73,.call ⟨.value (.func 24),#[.tmp 71,.tmp 72],#[27,48]⟩,4,"set.go:51",#[⟨7,.data⟩,⟨8,.data⟩,⟨6,.chain⟩,⟨6,.guard⟩],some (6,true)⟩,⟨some 74,.pick (.tmp 70) (.tmp 73) (.const (.bool false)),4,"set.go:51",#[⟨6,.data⟩,⟨9,.data⟩],none⟩] false).seq (Code.cond (Operand.tmp 74) ((Code.region 10 #[⟨some 75,.move (.tmp 14),31,"set.go:52",#[],none⟩,⟨some 76,.load 27 (.tmp 3),27,"set.go:52",#[],none⟩,⟨some 77,.move (.tmp 8),48,"set.go:52",#[],none⟩,⟨some 78,.indexAddr 48 (.tmp 77) (.const (.int .i64 0)),0,"set.go:52",#[⟨2,.data⟩],none⟩,⟨some 79,.load 53 (.tmp 78),53,"set.go:52",#[⟨3,.data⟩],none⟩,⟨some 80,.fieldAddr 29 (.tmp 4) 2,0,"set.go:52",#[],none⟩,⟨some 81,.load 3 (.tmp 80),3,"set.go:52",#[⟨5,.data⟩],none⟩,⟨some 82,.call ⟨.value (.func 25),#[.tmp 76,.tmp 79,.tmp 81],#[27,53,3]⟩,41,"set.go:52",#[⟨1,.data⟩,⟨4,.data⟩,⟨6,.data⟩],none⟩,⟨some 83,.buildSlice 31 1 #[(0,.tmp 82)],31,"set.go:52",#[⟨7,.data⟩],none⟩,⟨some 84,.call ⟨.builtin .append,#[.tmp 75,.tmp 83],#[31,31]⟩,31,"set.go:52",#[⟨0,.data⟩,⟨8,.data⟩,⟨7,.chain⟩],none⟩,⟨some 14,.assign (.tmp 84),31,"set.go:52",#[⟨9,.data⟩,⟨9,.chain⟩,⟨0,.phase⟩,⟨1,.phase⟩,⟨2,.phase⟩,⟨3,.phase⟩,⟨4,.phase⟩,⟨5,.phase⟩,⟨6,.phase⟩,⟨7,.phase⟩,⟨8,.phase⟩,⟨9,.phase⟩],none⟩] true).seq (Code.region 11 #[⟨some 10,.assign (.const (.int .i64 1)),3,"set.go:53",#[],none⟩] false)) Code.skip)).seq rest12)
def cpB (a : Pa) (n f t : Nat) (k : Int) : Bool := decide (f = 0) && (decide (0 < t) && capB a n k)
def gyL (a : Pa) (l : Ln) (last : Bool) (pn : Int → Bool) (MA : Nat → Ms) (n f t : Nat) : List Gl := if cpB a n f t (MA 0).k = true then lnL a l last pn (fun i => MA (1 + i)) (t - 1) [cpG a (MA 0) l.x] else lnL a l last pn (fun i => MA (f + i)) (t - f) []
theorem place_f (a : Pa) (l : Ln) (w0 : World) (Pb Lb g n0 cap0 f0 t0 : Nat) (MA : Nat → Ms) (last : Bool) (av : Option Addr) (Cq : Int → Prop) (pn : Int → Bool) (hpart : PartOk a Cq pn w0) (hA0 : PaAt w0 a) (hG : GoodP a) (hn1 : 0 < n0 → 1 ≤ a.t.size) (hav : 0 < n0 → av = some ⟨g,0,none⟩) (hcap : n0 ≤ cap0) (hn0 : n0 ≤ 4096) (hf0 : f0 ≤ t0) (ht0 : t0 ≤ n0) (hM : ∀ i,i < n0 → MsOk (MA i)) (hCq : ∀ i,i < n0 → Cq (MA i).q) (h14 : 0 ≤ a.p.p14 ∧ a.p.p14 ≤ 4) (hal : 0 ≤ a.p.p2 ∧ a.p.p2 ≤ 3) (hlx : 0 ≤ l.x ∧ l.x ≤ 4095) (hlw : 0 ≤ l.w ∧ l.w ≤ 4095)
  (W : World) (hlow : Below w0.heap.size w0 W) (hpb : PB W Pb a) (hlb : LB W Lb l) (hR : RF W g 0 n0 MA) (hg : 0 < n0 → w0.heap.size ≤ g ∧ g ≠ Pb ∧ g ≠ Lb)
  (RR : Ending → World → Prop) (hfin : ∀ base v' W',w0.heap.size ≤ base → W'.ownsRow base 41 4 v' (gyL a l last pn MA n0 f0 t0).length ((gyL a l last pn MA n0 f0 t0).flatMap glL) → Below w0.heap.size w0 W' → RR (.returned (.tuple #[v',.int .i64 0])) W') (v0 v1 v5 v6 v7 v9 xa xb xc xd xe xf xg xh xi xj xk xl xm xn xo xp xq xr xt xu xv xw xx xy xz xA xB xC xD xE xF xG xH xI xJ xK xL xM xN xO xP xQ xR xS xT xU xV xW xX xY xZ ya yb yc yd ye yf yg yh yi yj yk yl ym yn yo yp yq yr yt yu yv yw yx yy yz yA yB yC yD yE yF yG yH yI yJ yK yL yM yN yO yP yQ yR yS yT yU yV yW yX yY yZ za zb zc zd ze zf zg zh zi zj zk zl zm zn zo zp zq zr zs zt zu zv zw zx zy : Value) :
  restP8.wp Tryz.prog (bodyPost Tryz.prog Tryz.f8 RR) (fr8 v0 v1 (.bool last) (.pointer (some ⟨Pb,0,none⟩)) (.pointer (some ⟨Lb,0,none⟩)) v5 v6 v7 (.slice av n0 cap0) v9 (.int .i64 (f0 : Nat)) xa (.int .i64 (t0 : Nat)) xb xc xd xe xf xg xh xi xj xk xl xm xn xo xp xq xr xt xu xv xw xx xy xz xA xB xC xD xE xF xG xH xI xJ xK xL xM xN xO xP xQ xR xS xT xU xV xW xX xY xZ ya yb yc yd ye yf yg yh yi yj yk yl ym yn yo yp yq yr yt yu yv yw yx yy yz yA yB yC yD yE yF yG yH yI yJ yK yL yM yN yO yP yQ yR yS yT yU yV yW yX yY yZ za zb zc zd ze zf zg zh zi zj zk zl zm zn zo zp zq zr zs zt zu zv zw zx zy) W := by
 have hcapc : Hid (∀ W',Below W.heap.size W W' → Calls Tryz.prog 24 #[.agg (paC a),.slice av n0 cap0] W' fun e w' => e = .returned (.bool (capB a n0 (MA 0).k)) ∧ Below W'.heap.size W' w') := fun W' hb => hasCapital_any a W' g n0 cap0 MA hn0 av hav (hR.below hb (fun h => hR.lt h))
 -- without a drop capital
 have hno : Hid (cpB a n0 f0 t0 (MA 0).k = false → ∀ W',Below W.heap.size W W' → ∀ v0 v1 v5 v6 v7 v9 xa xb xd xe xf xg xh xi xj xk xl xm xn xo xp xq xr xt xu xv xw xx xy xz xA xB xC xD xE xF xG xH xI xJ xK xL xM xN xO xP xQ xR xS xT xU xV xW xX xY xZ ya yb yc yd ye yf yg yh yi yj yk yl ym yn yo yp yq yr yt yu yv yw yx yy yz yA yB yC yD yE yF yG yH yI yJ yK yL yM yN yO yP yQ yR yS yT yU yV yW yX yY yZ za zb zc zd ze zf zg zh zi zj zk zl zm zn zo zp zq zr zs zt zu zv zw zx zy : Value,rest12.wp Tryz.prog (bodyPost Tryz.prog Tryz.f8 RR) (fr8 v0 v1 (.bool last) (.pointer (some ⟨Pb,0,none⟩)) (.pointer (some ⟨Lb,0,none⟩)) v5 v6 v7 (.slice av n0 cap0) v9 (.int .i64 (f0 : Nat)) xa (.int .i64 (t0 : Nat)) xb (.slice none 0 0) xd xe xf xg xh xi xj xk xl xm xn xo xp xq xr xt xu xv xw xx xy xz xA xB xC xD xE xF xG xH xI xJ xK xL xM xN xO xP xQ xR xS xT xU xV xW xX xY xZ ya yb yc yd ye yf yg yh yi yj yk yl ym yn yo yp yq yr yt yu yv yw yx yy yz yA yB yC yD yE yF yG yH yI yJ yK yL yM yN yO yP yQ yR yS yT yU yV yW yX yY yZ za zb zc zd ze zf zg zh zi zj zk zl zm zn zo zp zq zr zs zt zu zv zw zx zy) W') := fun hc W' hb => by
  intro v0 v1 v5 v6 v7 v9 xa xb xd xe xf xg xh xi xj xk xl xm xn xo xp xq xr xt xu xv xw xx xy xz xA xB xC xD xE xF xG xH xI xJ xK xL xM xN xO xP xQ xR xS xT xU xV xW xX xY xZ ya yb yc yd ye yf yg yh yi yj yk yl ym yn yo yp yq yr yt yu yv yw yx yy yz yA yB yC yD yE yF yG yH yI yJ yK yL yM yN yO yP yQ yR yS yT yU yV yW yX yY yZ za zb zc zd ze zf zg zh zi zj zk zl zm zn zo zp zq zr zs zt zu zv zw zx zy
  have e : gyL a l last pn MA n0 f0 t0 = lnL a l last pn (fun i => MA (f0 + i)) (t0 - f0) [] := by unfold gyL; rw [hc]; rfl
  rw [e] at hfin
  have hP : PS w0 a l Pb Lb w0.heap.size (.slice none 0 0) [] W' := ⟨hlow.trans (hb.mono hlow.size),hpb.below hb hpb.lt,⟨(hb.block _ hlb.lt).trans hlb.row⟩,World.ownsRow_nil _ _ _ _,⟨Nat.le_refl _,Nat.le_trans hlow.size hb.size⟩,fun k hk => by cases hk⟩
  exact place_a a l w0 Pb Lb g n0 cap0 f0 t0 w0.heap.size MA last (.slice none 0 0) [] av Cq pn hpart hA0 hav hcap hn0 (by simp) hf0 ht0 hM hCq hal hlx hlw W' hP (hR.below hb (fun h => hR.lt h)) (fun h => ⟨(hg h).1,(hg h).2.1,(hg h).2.2,fun e => by cases e⟩) RR (fun v' W2 h1 h2 => hfin _ v' W2 (Nat.le_refl _) h1 h2) v0 v1 v5 v6 v7 v9 xa xb xd xe xf xg xh xi xj xk xl xm xn xo xp xq xr xt xu xv xw xx xy xz xA xB xC xD xE xF xG xH xI xJ xK xL xM xN xO xP xQ xR xS xT xU xV xW xX xY xZ ya yb yc yd ye yf yg yh yi yj yk yl ym yn yo yp yq yr yt yu yv yw yx yy yz yA yB yC yD yE yF yG yH yI yJ yK yL yM yN yO yP yQ yR yS yT yU yV yW yX yY yZ za zb zc zd ze zf zg zh zi zj zk zl zm zn zo zp zq zr zs zt zu zv zw zx zy
 -- with one
 have hyes : Hid (cpB a n0 f0 t0 (MA 0).k = true → 0 < n0 → 0 < t0 → ∀ W1 W2 v',Below W.heap.size W W1 → Below W1.heap.size W1 W2 → W2.ownsRow W1.heap.size 41 4 v' [cpG a (MA 0) l.x].length ([cpG a (MA 0) l.x].flatMap glL) → ∀ v0 v1 v5 v6 v7 v9 xa xb xd xe xf xg xh xi xj xk xl xm xn xo xp xq xr xt xu xv xw xx xy xz xA xB xC xD xE xF xG xH xI xJ xK xL xM xN xO xP xQ xR xS xT xU xV xW xX xY xZ ya yb yc yd ye yf yg yh yi yj yk yl ym yn yo yp yq yr yt yu yv yw yx yy yz yA yB yC yD yE yF yG yH yI yJ yK yL yM yN yO yP yQ yR yS yT yU yV yW yX yY yZ za zb zc zd ze zf zg zh zi zj zk zl zm zn zo zp zq zr zs zt zu zv zw zx zy : Value,rest12.wp Tryz.prog (bodyPost Tryz.prog Tryz.f8 RR) (fr8 v0 v1 (.bool last) (.pointer (some ⟨Pb,0,none⟩)) (.pointer (some ⟨Lb,0,none⟩)) v5 v6 v7 (.slice av n0 cap0) v9 (.int .i64 (1 : Nat)) xa (.int .i64 (t0 : Nat)) xb v' xd xe xf xg xh xi xj xk xl xm xn xo xp xq xr xt xu xv xw xx xy xz xA xB xC xD xE xF xG xH xI xJ xK xL xM xN xO xP xQ xR xS xT xU xV xW xX xY xZ ya yb yc yd ye yf yg yh yi yj yk yl ym yn yo yp yq yr yt yu yv yw yx yy yz yA yB yC yD yE yF yG yH yI yJ yK yL yM yN yO yP yQ yR yS yT yU yV yW yX yY yZ za zb zc zd ze zf zg zh zi zj zk zl zm zn zo zp zq zr zs zt zu zv zw zx zy) W2) := fun hc hn ht W1 W2 v' hb1 hb2 hr => by
  intro v0 v1 v5 v6 v7 v9 xa xb xd xe xf xg xh xi xj xk xl xm xn xo xp xq xr xt xu xv xw xx xy xz xA xB xC xD xE xF xG xH xI xJ xK xL xM xN xO xP xQ xR xS xT xU xV xW xX xY xZ ya yb yc yd ye yf yg yh yi yj yk yl ym yn yo yp yq yr yt yu yv yw yx yy yz yA yB yC yD yE yF yG yH yI yJ yK yL yM yN yO yP yQ yR yS yT yU yV yW yX yY yZ za zb zc zd ze zf zg zh zi zj zk zl zm zn zo zp zq zr zs zt zu zv zw zx zy
  have e : gyL a l last pn MA n0 f0 t0 = lnL a l last pn (fun i => MA (1 + i)) (t0 - 1) [cpG a (MA 0) l.x] := by unfold gyL; rw [hc]; rfl
  rw [e] at hfin
  have hb := hb1.trans (hb2.mono hb1.size)
  have hx : ∀ k,v'.ownBlock = some k → W.heap.size ≤ k := fun k hk => Nat.le_trans hb1.size (hr.lt k hk).1
  have l1 := hpb.lt
  have l2 := hlb.lt
  have l3 := hR.lt hn
  have hP : PS w0 a l Pb Lb W1.heap.size v' [cpG a (MA 0) l.x] W2 := ⟨hlow.trans (hb.mono hlow.size),hpb.below hb hpb.lt,⟨(hb.block _ hlb.lt).trans hlb.row⟩,hr,⟨Nat.le_trans hlow.size hb1.size,hb2.size⟩,fun k hk => by have := hx k hk; exact ⟨by omega,by omega⟩⟩
  exact place_a a l w0 Pb Lb g n0 cap0 1 t0 W1.heap.size MA last v' [cpG a (MA 0) l.x] av Cq pn hpart hA0 hav hcap hn0 (by simp) (by omega) ht0 hM hCq hal hlx hlw W2 hP (hR.below hb (fun h => hR.lt h)) (fun h => ⟨(hg h).1,(hg h).2.1,(hg h).2.2,fun e => by have := hx g e; omega⟩) RR (fun v2 W3 h1 h2 => hfin _ v2 W3 (Nat.le_trans hlow.size hb1.size) h1 h2) v0 v1 v5 v6 v7 v9 xa xb xd xe xf xg xh xi xj xk xl xm xn xo xp xq xr xt xu xv xw xx xy xz xA xB xC xD xE xF xG xH xI xJ xK xL xM xN xO xP xQ xR xS xT xU xV xW xX xY xZ ya yb yc yd ye yf yg yh yi yj yk yl ym yn yo yp yq yr yt yu yv yw yx yy yz yA yB yC yD yE yF yG yH yI yJ yK yL yM yN yO yP yQ yR yS yT yU yV yW yX yY yZ za zb zc zd ze zf zg zh zi zj zk zl zm zn zo zp zq zr zs zt zu zv zw zx zy
 have hcs : Hid (∀ W',0 < n0 → Below W.heap.size W W' → CS a l (MA 0) Pb Lb g W') := fun W' hn hb => ⟨hpb.below hb hpb.lt,⟨(hb.block _ hlb.lt).trans hlb.row⟩,((hR.below hb (fun h => hR.lt h)).part (s := 0) (n := 1) (by omega)).congr (fun i hi => by rw [show i = 0 by omega])⟩
 have hcp : Hid (0 < n0 → ∀ W',CS a l (MA 0) Pb Lb g W' → Calls Tryz.prog 25 #[.agg (paC a),.agg #[.int .i64 (MA 0).f,.int .i64 (MA 0).t,.int .i64 (MA 0).k,.int .i64 (MA 0).s,.int .i64 (MA 0).w,.int .i64 (MA 0).q],.int .i64 l.x] W' fun e w' => e = .returned (.agg (glL (cpG a (MA 0) l.x)).toArray) ∧ Below W'.heap.size W' w') := fun hn W' _ => capital_any a (hn1 hn) hG.p0 h14 (MA 0) l.x hlx W'
 clear hpart hA0 hM hCq hfin hR
 have hpr := hpb
 by_cases h1 : f0 = 0
 ·have h1' : ((f0 : Int) == 0) = true := by simpa using h1
  by_cases h2 : 0 < t0
  ·have h2' : (0 : Int) < (t0 : Nat) := by omega
   have hn : 0 < n0 := by omega
   obtain rfl := hav hn
   cases hcb : capB a n0 (MA 0).k
   ·have hce : cpB a n0 f0 t0 (MA 0).k = false := by unfold cpB; rw [hcb]; simp
    rw [hcb] at hcapc
    have hgo := hno.out hce
    clear hno hyes hcs hcp hcb hce
    replace hgo : Hid (∀ W',Below W.heap.size W W' → ∀ v0 v1 v5 v6 v7 v9 xa xb xd xe xf xg xh xi xj xk xl xm xn xo xp xq xr xt xu xv xw xx xy xz xA xB xC xD xE xF xG xH xI xJ xK xL xM xN xO xP xQ xR xS xT xU xV xW xX xY xZ ya yb yc yd ye yf yg yh yi yj yk yl ym yn yo yp yq yr yt yu yv yw yx yy yz yA yB yC yD yE yF yG yH yI yJ yK yL yM yN yO yP yQ yR yS yT yU yV yW yX yY yZ za zb zc zd ze zf zg zh zi zj zk zl zm zn zo zp zq zr zs zt zu zv zw zx zy : Value,rest12.wp Tryz.prog (bodyPost Tryz.prog Tryz.f8 RR) (fr8 v0 v1 (.bool last) (.pointer (some ⟨Pb,0,none⟩)) (.pointer (some ⟨Lb,0,none⟩)) v5 v6 v7 (.slice (some ⟨g,0,none⟩) n0 cap0) v9 (.int .i64 (f0 : Nat)) xa (.int .i64 (t0 : Nat)) xb (.slice none 0 0) xd xe xf xg xh xi xj xk xl xm xn xo xp xq xr xt xu xv xw xx xy xz xA xB xC xD xE xF xG xH xI xJ xK xL xM xN xO xP xQ xR xS xT xU xV xW xX xY xZ ya yb yc yd ye yf yg yh yi yj yk yl ym yn yo yp yq yr yt yu yv yw yx yy yz yA yB yC yD yE yF yG yH yI yJ yK yL yM yN yO yP yQ yR yS yT yU yV yW yX yY yZ za zb zc zd ze zf zg zh zi zj zk zl zm zn zo zp zq zr zs zt zu zv zw zx zy) W') := hgo
    clear h1
    unfold restP8 fr8
    unfold fr8 at hgo
    go_wp2_with (first | (refine wpList_load_want 27 _ rfl rfl Pb rfl 27 _ (0,0) _ hpr.row Tryz.underlying27 rfl (info34 a) ?_) | (go_at_call 24; refine (hcapc.out _ (Below.refl _ _)).mono ?_; rintro e W2 ⟨rfl,hb2⟩; clear hcapc))
    exact hgo.out _ hb2 _ _ _ _ _ _ _ _ _ _ _ _ _ _ _ _ _ _ _ _ _ _ _ _ _ _ _ _ _ _ _ _ _ _ _ _ _ _ _ _ _ _ _ _ _ _ _ _ _ _ _ _ _ _ _ _ _ _ _ _ _ _ _ _ _ _ _ _ _ _ _ _ _ _ _ _ _ _ _ _ _ _ _ _ _ _ _ _ _ _ _ _ _ _ _ _ _ _ _ _ _ _ _ _ _ _ _ _ _ _ _ _ _ _ _ _ _ _ _ _ _ _ _ _ _ _ _ _ _ _ _ _
   ·have hce : cpB a n0 f0 t0 (MA 0).k = true := by unfold cpB; rw [hcb]; simp [h1,h2]
    rw [hcb] at hcapc
    have hgo := hyes.out hce hn h2
    clear hno hyes hcb hce
    replace hgo : Hid (∀ W1 W2 v',Below W.heap.size W W1 → Below W1.heap.size W1 W2 → W2.ownsRow W1.heap.size 41 4 v' [cpG a (MA 0) l.x].length ([cpG a (MA 0) l.x].flatMap glL) → ∀ v0 v1 v5 v6 v7 v9 xa xb xd xe xf xg xh xi xj xk xl xm xn xo xp xq xr xt xu xv xw xx xy xz xA xB xC xD xE xF xG xH xI xJ xK xL xM xN xO xP xQ xR xS xT xU xV xW xX xY xZ ya yb yc yd ye yf yg yh yi yj yk yl ym yn yo yp yq yr yt yu yv yw yx yy yz yA yB yC yD yE yF yG yH yI yJ yK yL yM yN yO yP yQ yR yS yT yU yV yW yX yY yZ za zb zc zd ze zf zg zh zi zj zk zl zm zn zo zp zq zr zs zt zu zv zw zx zy : Value,rest12.wp Tryz.prog (bodyPost Tryz.prog Tryz.f8 RR) (fr8 v0 v1 (.bool last) (.pointer (some ⟨Pb,0,none⟩)) (.pointer (some ⟨Lb,0,none⟩)) v5 v6 v7 (.slice (some ⟨g,0,none⟩) n0 cap0) v9 (.int .i64 (1 : Nat)) xa (.int .i64 (t0 : Nat)) xb v' xd xe xf xg xh xi xj xk xl xm xn xo xp xq xr xt xu xv xw xx xy xz xA xB xC xD xE xF xG xH xI xJ xK xL xM xN xO xP xQ xR xS xT xU xV xW xX xY xZ ya yb yc yd ye yf yg yh yi yj yk yl ym yn yo yp yq yr yt yu yv yw yx yy yz yA yB yC yD yE yF yG yH yI yJ yK yL yM yN yO yP yQ yR yS yT yU yV yW yX yY yZ za zb zc zd ze zf zg zh zi zj zk zl zm zn zo zp zq zr zs zt zu zv zw zx zy) W2) := hgo
    clear h1
    have hn' : (0 : Int) < (n0 : Nat) := by omega
    have hnz : Hid (¬ n0 = 0) := (by omega : ¬ n0 = 0)
    unfold restP8 fr8
    go_wp2_with (first | (refine wpList_load_want 27 _ rfl rfl Pb rfl 27 _ (0,0) _ hpr.row Tryz.underlying27 rfl (info34 a) ?_) | (go_at_call 24; refine (hcapc.out _ (Below.refl _ _)).mono ?_; rintro e W2 ⟨rfl,hb2⟩; clear hcapc))
    refine pl_r10 _ (fun _ _ _ _ _ h => h) _ _ a l (MA 0) Pb Lb g n0 cap0 W2 (hcs.out _ hn (hb2.trans ((below_drew W2).mono hb2.size))) hn' hnz.out (fun W' hW' => hcp.out hn W' hW') ?_
    intro vv v' w1 w2 hb3 hb4 hr4
    have hgo2 : Hid (∀ v0 v1 v5 v6 v7 v9 xa xb xd xe xf xg xh xi xj xk xl xm xn xo xp xq xr xt xu xv xw xx xy xz xA xB xC xD xE xF xG xH xI xJ xK xL xM xN xO xP xQ xR xS xT xU xV xW xX xY xZ ya yb yc yd ye yf yg yh yi yj yk yl ym yn yo yp yq yr yt yu yv yw yx yy yz yA yB yC yD yE yF yG yH yI yJ yK yL yM yN yO yP yQ yR yS yT yU yV yW yX yY yZ za zb zc zd ze zf zg zh zi zj zk zl zm zn zo zp zq zr zs zt zu zv zw zx zy : Value,rest12.wp Tryz.prog (bodyPost Tryz.prog Tryz.f8 RR) (fr8 v0 v1 (.bool last) (.pointer (some ⟨Pb,0,none⟩)) (.pointer (some ⟨Lb,0,none⟩)) v5 v6 v7 (.slice (some ⟨g,0,none⟩) n0 cap0) v9 (.int .i64 (1 : Nat)) xa (.int .i64 (t0 : Nat)) xb v' xd xe xf xg xh xi xj xk xl xm xn xo xp xq xr xt xu xv xw xx xy xz xA xB xC xD xE xF xG xH xI xJ xK xL xM xN xO xP xQ xR xS xT xU xV xW xX xY xZ ya yb yc yd ye yf yg yh yi yj yk yl ym yn yo yp yq yr yt yu yv yw yx yy yz yA yB yC yD yE yF yG yH yI yJ yK yL yM yN yO yP yQ yR yS yT yU yV yW yX yY yZ za zb zc zd ze zf zg zh zi zj zk zl zm zn zo zp zq zr zs zt zu zv zw zx zy) w2) := hgo.out w1 w2 v' (hb2.trans (hb3.mono hb2.size)) hb4 hr4
    clear hgo hcs hcp hb3 hb4 hr4 hb2
    unfold fr8
    unfold fr8 at hgo2
    go_wp2_with fail
    exact hgo2.out _ _ _ _ _ _ _ _ _ _ _ _ _ _ _ _ _ _ _ _ _ _ _ _ _ _ _ _ _ _ _ _ _ _ _ _ _ _ _ _ _ _ _ _ _ _ _ _ _ _ _ _ _ _ _ _ _ _ _ _ _ _ _ _ _ _ _ _ _ _ _ _ _ _ _ _ _ _ _ _ _ _ _ _ _ _ _ _ _ _ _ _ _ _ _ _ _ _ _ _ _ _ _ _ _ _ _ _ _ _ _ _ _ _ _ _ _ _ _ _ _ _ _ _ _ _ _ _ _ _ _ _
  ·have h2' : ¬ (0 : Int) < (t0 : Nat) := by omega
   have hce : cpB a n0 f0 t0 (MA 0).k = false := by unfold cpB; simp [h2]
   have hgo := hno.out hce
   clear hno hyes hcs hcp hce hcapc
   replace hgo : Hid (∀ W',Below W.heap.size W W' → ∀ v0 v1 v5 v6 v7 v9 xa xb xd xe xf xg xh xi xj xk xl xm xn xo xp xq xr xt xu xv xw xx xy xz xA xB xC xD xE xF xG xH xI xJ xK xL xM xN xO xP xQ xR xS xT xU xV xW xX xY xZ ya yb yc yd ye yf yg yh yi yj yk yl ym yn yo yp yq yr yt yu yv yw yx yy yz yA yB yC yD yE yF yG yH yI yJ yK yL yM yN yO yP yQ yR yS yT yU yV yW yX yY yZ za zb zc zd ze zf zg zh zi zj zk zl zm zn zo zp zq zr zs zt zu zv zw zx zy : Value,rest12.wp Tryz.prog (bodyPost Tryz.prog Tryz.f8 RR) (fr8 v0 v1 (.bool last) (.pointer (some ⟨Pb,0,none⟩)) (.pointer (some ⟨Lb,0,none⟩)) v5 v6 v7 (.slice av n0 cap0) v9 (.int .i64 (f0 : Nat)) xa (.int .i64 (t0 : Nat)) xb (.slice none 0 0) xd xe xf xg xh xi xj xk xl xm xn xo xp xq xr xt xu xv xw xx xy xz xA xB xC xD xE xF xG xH xI xJ xK xL xM xN xO xP xQ xR xS xT xU xV xW xX xY xZ ya yb yc yd ye yf yg yh yi yj yk yl ym yn yo yp yq yr yt yu yv yw yx yy yz yA yB yC yD yE yF yG yH yI yJ yK yL yM yN yO yP yQ yR yS yT yU yV yW yX yY yZ za zb zc zd ze zf zg zh zi zj zk zl zm zn zo zp zq zr zs zt zu zv zw zx zy) W') := hgo
   clear h1
   unfold restP8 fr8
   unfold fr8 at hgo
   go_wp2_with fail
   exact hgo.out _ (Below.refl _ _) _ _ _ _ _ _ _ _ _ _ _ _ _ _ _ _ _ _ _ _ _ _ _ _ _ _ _ _ _ _ _ _ _ _ _ _ _ _ _ _ _ _ _ _ _ _ _ _ _ _ _ _ _ _ _ _ _ _ _ _ _ _ _ _ _ _ _ _ _ _ _ _ _ _ _ _ _ _ _ _ _ _ _ _ _ _ _ _ _ _ _ _ _ _ _ _ _ _ _ _ _ _ _ _ _ _ _ _ _ _ _ _ _ _ _ _ _ _ _ _ _ _ _ _ _ _ _ _ _ _ _ _
 ·have h1' : ((f0 : Int) == 0) = false := by simpa using h1
  have hce : cpB a n0 f0 t0 (MA 0).k = false := by unfold cpB; simp [h1]
  have hgo := hno.out hce
  clear hno hyes hcs hcp hce hcapc
  replace hgo : Hid (∀ W',Below W.heap.size W W' → ∀ v0 v1 v5 v6 v7 v9 xa xb xd xe xf xg xh xi xj xk xl xm xn xo xp xq xr xt xu xv xw xx xy xz xA xB xC xD xE xF xG xH xI xJ xK xL xM xN xO xP xQ xR xS xT xU xV xW xX xY xZ ya yb yc yd ye yf yg yh yi yj yk yl ym yn yo yp yq yr yt yu yv yw yx yy yz yA yB yC yD yE yF yG yH yI yJ yK yL yM yN yO yP yQ yR yS yT yU yV yW yX yY yZ za zb zc zd ze zf zg zh zi zj zk zl zm zn zo zp zq zr zs zt zu zv zw zx zy : Value,rest12.wp Tryz.prog (bodyPost Tryz.prog Tryz.f8 RR) (fr8 v0 v1 (.bool last) (.pointer (some ⟨Pb,0,none⟩)) (.pointer (some ⟨Lb,0,none⟩)) v5 v6 v7 (.slice av n0 cap0) v9 (.int .i64 (f0 : Nat)) xa (.int .i64 (t0 : Nat)) xb (.slice none 0 0) xd xe xf xg xh xi xj xk xl xm xn xo xp xq xr xt xu xv xw xx xy xz xA xB xC xD xE xF xG xH xI xJ xK xL xM xN xO xP xQ xR xS xT xU xV xW xX xY xZ ya yb yc yd ye yf yg yh yi yj yk yl ym yn yo yp yq yr yt yu yv yw yx yy yz yA yB yC yD yE yF yG yH yI yJ yK yL yM yN yO yP yQ yR yS yT yU yV yW yX yY yZ za zb zc zd ze zf zg zh zi zj zk zl zm zn zo zp zq zr zs zt zu zv zw zx zy) W') := hgo
  clear h1
  unfold restP8 fr8
  unfold fr8 at hgo
  go_wp2_with fail
  exact hgo.out _ (Below.refl _ _) _ _ _ _ _ _ _ _ _ _ _ _ _ _ _ _ _ _ _ _ _ _ _ _ _ _ _ _ _ _ _ _ _ _ _ _ _ _ _ _ _ _ _ _ _ _ _ _ _ _ _ _ _ _ _ _ _ _ _ _ _ _ _ _ _ _ _ _ _ _ _ _ _ _ _ _ _ _ _ _ _ _ _ _ _ _ _ _ _ _ _ _ _ _ _ _ _ _ _ _ _ _ _ _ _ _ _ _ _ _ _ _ _ _ _ _ _ _ _ _ _ _ _ _ _ _ _ _ _ _ _ _
end Go.Proofs.YtbdpghjegachaaaGreatDoor
