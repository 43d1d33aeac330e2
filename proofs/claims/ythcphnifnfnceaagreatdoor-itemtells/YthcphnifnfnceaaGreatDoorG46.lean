/-
  What is proved here: ItemTells answers true of any paragraph.
-/
import Derived.Test.YthcphnifnfnceaaGreatDoorG26
import Derived.Test.YthcphnifnfnceaaGreatDoorG44
import Derived.Test.YthcphnifnfnceaaGreatDoorG45
namespace Go.Proofs.YthcphnifnfnceaaGreatDoor
open Go.RowKit Go.Shelf
set_option maxRecDepth 100000
set_option maxHeartbeats 1500000

theorem ritems_tell (a : Pa) (hlb : a.lb.size ≤ 9223372036854775807) (hms : ∀ i (h : i < a.ms.length),(a.ms[i]).size ≤ 9223372036854775807) (w : World) (hA : PaAt w a) : Calls Tryz.prog 10 #[.agg (paC a)] w fun e w' => ∃ v,e = .returned (.tuple #[v,.int .i64 (chkI a)]) ∧ ItsAt w' v (tellL a) ∧ Below w.heap.size w w' ∧ ∀ b o n c,v = .slice (some ⟨b,o,none⟩) n c → w.heap.size ≤ b := by
 refine (ritems_any a hlb hms w hA).mono ?_
 rintro e w' ⟨⟨v,rfl,hv⟩,hb⟩
 rcases hv with ⟨h1,rfl⟩ | ⟨h1,h2,h3⟩
 ·refine ⟨_,rfl,?_,hb,fun b o n c e => by cases e⟩
  unfold tellL
  rw [if_neg h1]
  exact its_nil _
 ·refine ⟨v,rfl,?_,hb,h3⟩
  unfold tellL
  rw [if_pos h1]
  exact h2
def skB (a : Pa) : Prop := (1500 < a.t.size ∧ a.t.size ≤ 4096) ∨ 5000 < a.sp.length ∨ 5000 < a.ms.length
theorem tells_skip (a : Pa) (w : World) (hA : PaAt w a) (h : skB a) : Calls Tryz.prog 3 #[.agg (paC a)] w fun e w' => e = .returned (.bool true) ∧ Below w.heap.size w w' := by
 have hB := (Below.refl w.heap.size w).alloc (Nat.le_refl _) (Obj.cells (paC a) 27)
 have hP := PB.new w a
 have c0 := hP.c0
 have c1 := hP.c1
 have c20 := hP.c20
 obtain ⟨x1,y1,e1,-⟩ := hA.sp.ex
 obtain ⟨x2,y2,e2,-⟩ := hA.ms.ex
 rw [e1] at c1
 rw [e2] at c20
 replace hB : Hid _ := hB
 clear hA hP e1 e2
 unfold skB at h
 generalize hw1 : w.alloc (.cells (paC a) 27) = w1 at *
 by_cases h1 : 1500 < a.t.size ∧ a.t.size ≤ 4096
 ·have d1 : (1500 : Int) < a.t.size := by omega
  have d2 : (a.t.size : Int) ≤ 4096 := by omega
  clear h h1
  go_enter Tryz.func3,Tryz.ntmps3
  go_wp2_with fail
  go_ret
  exact ⟨rfl,hB.out⟩
 ·have h2 : 5000 < a.sp.length ∨ 5000 < a.ms.length := by
   rcases h with h | h
   ·exact absurd h h1
   ·exact h
  by_cases h3 : 5000 < a.sp.length
  ·have d3 : (5000 : Int) < a.sp.length := by omega
   by_cases h4 : 1500 < a.t.size
   ·have d1 : (1500 : Int) < a.t.size := by omega
    have d2 : ¬ (a.t.size : Int) ≤ 4096 := by omega
    clear h h1 h2
    go_enter Tryz.func3,Tryz.ntmps3
    go_wp2_with fail
    go_ret
    exact ⟨rfl,hB.out⟩
   ·have d1 : ¬ (1500 : Int) < a.t.size := by omega
    clear h h1 h2
    go_enter Tryz.func3,Tryz.ntmps3
    go_wp2_with fail
    go_ret
    exact ⟨rfl,hB.out⟩
  ·have d3 : ¬ (5000 : Int) < a.sp.length := by omega
   have d4 : (5000 : Int) < a.ms.length := by omega
   by_cases h4 : 1500 < a.t.size
   ·have d1 : (1500 : Int) < a.t.size := by omega
    have d2 : ¬ (a.t.size : Int) ≤ 4096 := by omega
    clear h h1 h2
    go_enter Tryz.func3,Tryz.ntmps3
    go_wp2_with fail
    go_ret
    exact ⟨rfl,hB.out⟩
   ·have d1 : ¬ (1500 : Int) < a.t.size := by omega
    clear h h1 h2
    go_enter Tryz.func3,Tryz.ntmps3
    go_wp2_with fail
    go_ret
    exact ⟨rfl,hB.out⟩

def rest8 : Code := ((Code.region 8 #[⟨some 59,.move (.tmp 4),29,"law.go:22",#[],none⟩,⟨some 60,.call ⟨.value (.func 13),#[.tmp 59],#[29]⟩,0,"law.go:22",#[⟨0,.data⟩],none⟩] false).seq ((Code.region 9 #[⟨some 62,.load 27 (.tmp 3),27,"law.go:23",#[],none⟩,⟨some 63,.call ⟨.value (.func 9),#[.tmp 62],#[27]⟩,31,"law.go:23",#[⟨0,.data⟩],none⟩,⟨some 61,.move (.tmp 63),31,"law.go:23",#[⟨1,.data⟩],none⟩,⟨some 64,.extract (.tmp 61) 0,29,"law.go:23",#[⟨2,.data⟩],none⟩,⟨some 65,.extract (.tmp 61) 1,30,"law.go:23",#[⟨2,.data⟩,⟨5,.gcOnly .lateStores⟩],none⟩,⟨some 8,.assign (.tmp 64),29,"law.go:23",#[⟨3,.data⟩,⟨1,.chain⟩,⟨0,.phase⟩,⟨1,.phase⟩,⟨2,.phase⟩,⟨3,.phase⟩,⟨4,.textOnly .lateStores⟩],none⟩,⟨some 9,.assign (.tmp 65),30,"law.go:23",#[⟨4,.data⟩,⟨5,.chain⟩,⟨0,.phase⟩,⟨1,.phase⟩,⟨2,.phase⟩,⟨3,.phase⟩,⟨4,.phase⟩,⟨5,.phase⟩],none⟩] false).seq ((Code.region 10 #[⟨some 66,.move (.tmp 8),29,"law.go:24",#[],none⟩,⟨some 67,.move (.tmp 6),29,"law.go:24",#[],none⟩,⟨some 68,.call ⟨.value (.func 11),#[.tmp 66,.tmp 67],#[29,29]⟩,4,"law.go:24",#[⟨0,.data⟩,⟨1,.data⟩],none⟩,⟨some 69,.move (.tmp 68),4,"law.go:24",#[⟨2,.data⟩,⟨2,.chain⟩],none⟩,⟨some 70,.call ⟨.value (.func 14),#[],#[]⟩,4,"law.go:24",#[⟨3,.chain⟩,⟨3,.guard⟩],some (3,true)⟩,⟨some 71,.pick (.tmp 69) (.tmp 70) (.const (.bool false)),4,"law.go:24",#[⟨3,.data⟩,⟨4,.data⟩],none⟩,⟨some 2,.assign (.tmp 71),4,"law.go:24",#[⟨5,.data⟩,⟨4,.chain⟩,⟨0,.phase⟩,⟨1,.phase⟩,⟨2,.phase⟩,⟨3,.phase⟩,⟨4,.phase⟩,⟨5,.phase⟩],none⟩] false).seq Code.ret)))
def rest4 : Code := ((Code.region 4 #[⟨some 35,.load 27 (.tmp 3),27,"law.go:17",#[],none⟩,⟨some 36,.call ⟨.value (.func 9),#[.tmp 35],#[27]⟩,31,"law.go:17",#[⟨0,.data⟩],none⟩,⟨some 34,.move (.tmp 36),31,"law.go:17",#[⟨1,.data⟩],none⟩,⟨some 37,.extract (.tmp 34) 0,29,"law.go:17",#[⟨2,.data⟩],none⟩,⟨some 38,.extract (.tmp 34) 1,30,"law.go:17",#[⟨2,.data⟩,⟨5,.gcOnly .lateStores⟩],none⟩,⟨some 4,.assign (.tmp 37),29,"law.go:17",#[⟨3,.data⟩,⟨1,.chain⟩,⟨0,.phase⟩,⟨1,.phase⟩,⟨2,.phase⟩,⟨3,.phase⟩,⟨4,.textOnly .lateStores⟩],none⟩,⟨some 5,.assign (.tmp 38),30,"law.go:17",#[⟨4,.data⟩,⟨5,.chain⟩,⟨0,.phase⟩,⟨1,.phase⟩,⟨2,.phase⟩,⟨3,.phase⟩,⟨4,.phase⟩,⟨5,.phase⟩],none⟩] false).seq ((Code.region 5 #[⟨some 40,.load 27 (.tmp 1),27,"law.go:18",#[],none⟩,⟨some 41,.call ⟨.value (.func 10),#[.tmp 40],#[27]⟩,31,"law.go:18",#[⟨0,.data⟩],none⟩,⟨some 39,.move (.tmp 41),31,"law.go:18",#[⟨1,.data⟩],none⟩,⟨some 42,.extract (.tmp 39) 0,29,"law.go:18",#[⟨2,.data⟩],none⟩,⟨some 43,.extract (.tmp 39) 1,30,"law.go:18",#[⟨2,.data⟩,⟨5,.gcOnly .lateStores⟩],none⟩,⟨some 6,.assign (.tmp 42),29,"law.go:18",#[⟨3,.data⟩,⟨1,.chain⟩,⟨0,.phase⟩,⟨1,.phase⟩,⟨2,.phase⟩,⟨3,.phase⟩,⟨4,.textOnly .lateStores⟩],none⟩,⟨some 7,.assign (.tmp 43),30,"law.go:18",#[⟨4,.data⟩,⟨5,.chain⟩,⟨0,.phase⟩,⟨1,.phase⟩,⟨2,.phase⟩,⟨3,.phase⟩,⟨4,.phase⟩,⟨5,.phase⟩],none⟩] false).seq (((Code.region 6 #[⟨some 44,.move (.tmp 4),29,"law.go:19",#[],none⟩,⟨some 45,.move (.tmp 6),29,"law.go:19",#[],none⟩,⟨some 46,.call ⟨.value (.func 11),#[.tmp 44,.tmp 45],#[29,29]⟩,4,"law.go:19",#[⟨0,.data⟩,⟨1,.data⟩],none⟩,⟨some 47,.unOp .not 4 (.tmp 46),4,"law.go:19",#[⟨2,.data⟩],none⟩,⟨some 48,.move (.tmp 47),4,"law.go:19",#[⟨3,.data⟩,⟨2,.chain⟩],none⟩,⟨some 49,.move (.tmp 5),30,"law.go:19",#[⟨4,.guard⟩],some (4,false)⟩,⟨some 50,.move (.tmp 7),30,"law.go:19",#[⟨4,.guard⟩],some (4,false)⟩,⟨some 51,.binOp .neq 30 (.tmp 49) (.tmp 50) 30,4,"law.go:19",#[⟨5,.data⟩,⟨6,.data⟩,⟨4,.guard⟩],some (4,false)⟩,⟨some 52,.pick (.tmp 48) (.const (.bool true)) (.tmp 51),4,"law.go:19",#[⟨4,.data⟩,⟨7,.data⟩],none⟩,⟨some 53,.move (.tmp 52),4,"law.go:19",#[⟨8,.data⟩,⟨4,.chain⟩],none⟩,⟨some 54,.load 27 (.tmp 3),27,"law.go:19",#[⟨9,.guard⟩],some (9,false)⟩,⟨some 55,.load 27 (.tmp 1),27,"law.go:19",#[⟨9,.guard⟩],some (9,false)⟩,⟨some 56,.call ⟨.value (.func 12),#[.tmp 54,.tmp 55],#[27,27]⟩,4,"law.go:19",#[⟨10,.data⟩,⟨11,.data⟩,⟨9,.chain⟩,⟨9,.guard⟩],some (9,false)⟩,⟨some 57,.unOp .not 4 (.tmp 56),4,"law.go:19",#[⟨12,.data⟩,⟨9,.guard⟩],some (9,false)⟩,⟨some 58,.pick (.tmp 53) (.const (.bool true)) (.tmp 57),4,"law.go:19",#[⟨9,.data⟩,⟨13,.data⟩],none⟩] false).seq (Code.cond (Operand.tmp 58) ((Code.region 7 #[⟨some 2,.assign (.const (.bool false)),4,"law.go:20",#[],none⟩] false).seq Code.ret) Code.skip)).seq rest8)))
def rest3 : Code := ((Code.region 3 #[⟨some 32,.load 27 (.tmp 1),27,"law.go:16",#[],none⟩,⟨some 33,.call ⟨.value (.func 8),#[.tmp 32],#[27]⟩,27,"law.go:16",#[⟨0,.data⟩],none⟩,⟨some 3,.alloc 27,0,"law.go:16",#[],none⟩,⟨none,.store 27 (.tmp 3) (.tmp 33),0,"law.go:16",#[⟨2,.data⟩,⟨1,.data⟩,⟨1,.chain⟩,⟨0,.phase⟩,⟨1,.phase⟩,⟨2,.phase⟩],none⟩] false).seq rest4)
def fr3 (v0 v1 v2 v3 v4 v5 v6 v7 v8 v9 xa xb xc xd xe xf xg xh xi xj xk xl xm xn xo xp xq xr xt xu xv xw xx xy xz xA xB xC xD xE xF xG xH xI xJ xK xL xM xN xO xP xQ xR xS xT xU xV xW xX xY xZ ya yb yc yd ye yf yg yh yi yj yk : Value) : Act := { tmps := #[v0,v1,v2,v3,v4,v5,v6,v7,v8,v9,xa,xb,xc,xd,xe,xf,xg,xh,xi,xj,xk,xl,xm,xn,xo,xp,xq,xr,xt,xu,xv,xw,xx,xy,xz,xA,xB,xC,xD,xE,xF,xG,xH,xI,xJ,xK,xL,xM,xN,xO,xP,xQ,xR,xS,xT,xU,xV,xW,xX,xY,xZ,ya,yb,yc,yd,ye,yf,yg,yh,yi,yj,yk],defers := [] }
theorem pa_sv2 {W : World} {a : Pa} (h : PaAt W a) : a.sv.oneCell' = true := by
 obtain ⟨x,c,e,-⟩ := h.sp.ex
 rw [e]; rfl
theorem pa_mv2 {W : World} {a : Pa} (h : PaAt W a) : a.mv.oneCell' = true := by
 obtain ⟨x,c,e,-⟩ := h.ms.ex
 rw [e]; rfl
theorem row_new2 (w2 : World) (a : Pa) : PB ((w2.alloc (.cells (paC zeroP) 27)).setRow w2.heap.size (paC a)) w2.heap.size a ∧ Below w2.heap.size w2 ((w2.alloc (.cells (paC zeroP) 27)).setRow w2.heap.size (paC a)) := by
 have hT4 : Turns (fun k => k = w2.heap.size) (w2.alloc (.cells (paC zeroP) 27)) ((w2.alloc (.cells (paC zeroP) 27)).setRow w2.heap.size (paC a)) := Turns.setRow (X := fun k => k = w2.heap.size) _ rfl _
 have hB3 : Below w2.heap.size w2 (w2.alloc (.cells (paC zeroP) 27)) := (Below.refl _ _).alloc (Nat.le_refl _) _
 exact ⟨⟨setRow_heap _ _ _ _ 27 _ (PB.new w2 zeroP).row⟩,hB3.trans (hT4.below hB3.size (fun k hk => by omega))⟩
structure T9 (a : Pa) (X W : World) (z : Value) : Prop where
 its : ItsAt W z (tellL a)
 bel : Below X.heap.size X W
 ovr : ∃ Y : Nat → Prop,(∀ k,Y k → X.heap.size ≤ k ∧ k < W.heap.size) ∧ ∀ W2,Below W.heap.size W W2 → Calls Tryz.prog 13 #[z] W2 fun e w' => e = .returned (.tuple #[]) ∧ Turns Y W2 w'
structure T10 (a : Pa) (X W : World) (z : Value) : Prop where
 its : ItsAt W z (tellL a)
 bel : Below X.heap.size X W
 new : ∀ b o n c,z = .slice (some ⟨b,o,none⟩) n c → X.heap.size ≤ b
theorem c9 (a : Pa) (v u : Value) (W : World) (hA : PaAt W (paW a v u)) (htb : Hy.Tab W) : ∀ X,Below W.heap.size W X → Calls Tryz.prog 9 #[.agg (paC (paW a v u))] X fun e w' => ∃ z,e = .returned (.tuple #[z,.int .i64 (chkI a)]) ∧ T9 a X w' z := fun X h => by
 refine (items_tell (paW a v u) X (hA.below h (Nat.le_refl _)) (htb.below h)).mono ?_
 rintro e w' ⟨z,rfl,h1,h2,h3⟩
 exact ⟨z,rfl,h1,h2,h3⟩
theorem tells_r8 (a : Pa) (v u : Value) (w W X : World) (B C : Nat) (hB : Below w.heap.size w W) (hQ : PB W C (paW a v u)) (hA2 : PaAt W (paW a v u)) (htb : Hy.Tab W) (hX : Below W.heap.size W X) (z4 z6 : Value)
  (h13 : Calls Tryz.prog 13 #[z4] X fun e w' => e = .returned (.tuple #[]) ∧ Below W.heap.size X w' ∧ ItsAt w' z6 (tellL a)) {v0 v2 v5 v7 v8 v9 xa xb xc xd xe xf xg xh xi xj xk xl xm xn xo xp xq xr xt xu xv xw xx xy xz xA xB xC xD xE xF xG xH xI xJ xK xL xM xN xO xP xQ xR xS xT xU xV xW xX xY xZ ya yb yc yd ye yf yg yh yi yj yk : Value} :
  rest8.wp Tryz.prog (bodyPost Tryz.prog Tryz.f3 fun e w' => e = .returned (.bool true) ∧ Below w.heap.size w w') (fr3 v0 (.pointer (some ⟨B,0,none⟩)) v2 (.pointer (some ⟨C,0,none⟩)) z4 v5 z6 v7 v8 v9 xa xb xc xd xe xf xg xh xi xj xk xl xm xn xo xp xq xr xt xu xv xw xx xy xz xA xB xC xD xE xF xG xH xI xJ xK xL xM xN xO xP xQ xR xS xT xU xV xW xX xY xZ ya yb yc yd ye yf yg yh yi yj yk) X := by
 have hq : Hid (∀ X,Below W.heap.size W X → X.heap[C]? = some (.cells (paC (paW a v u)) 27 (0,0))) := fun X h => (hQ.below h hQ.lt).row
 have h9 : Hid (∀ X,Below W.heap.size W X → Calls Tryz.prog 9 #[.agg (paC (paW a v u))] X fun e w' => ∃ z,e = .returned (.tuple #[z,.int .i64 (chkI a)]) ∧ T9 a X w' z) := c9 a v u W hA2 htb
 have h11 : Hid (∀ X x,ItsAt X x (tellL a) → ItsAt X z6 (tellL a) → Calls Tryz.prog 11 #[x,z6] X fun e w' => e = .returned (.bool true) ∧ Below X.heap.size X w') := fun X x hx hy => sameItems_yes x z6 _ X (Nat.le_trans (tell_few a) (by decide)) hx hy
 have h14 : Hid (∀ X,Below W.heap.size W X → Calls Tryz.prog 14 #[] X fun e w' => e = .returned (.bool true) ∧ Below X.heap.size X w') := fun X h => awake_yes X (htb.below h)
 replace h13 : Hid (Calls Tryz.prog 13 #[z4] X fun e w' => e = .returned (.tuple #[]) ∧ Below W.heap.size X w' ∧ ItsAt w' z6 (tellL a)) := h13
 replace hX : Hid _ := hX
 replace hB : Hid _ := hB
 generalize chkI a = ck at *
 clear hQ hA2 htb
 unfold rest8 fr3
 apply wp_seq_k; intro K8 hK8
 replace hK8 : Hid _ := hK8
 go_wp2_with (go_at_call 13; refine h13.out.mono ?_; rintro e w8 ⟨rfl,q1,q2⟩; replace q1 : Hid _ := q1; replace q2 : Hid _ := q2)
 refine hK8.out _ _ ?_
 clear hK8 K8 h13
 have b8 : Hid (Below W.heap.size W w8) := hX.out.trans q1.out
 apply wp_seq_k; intro K9 hK9
 replace hK9 : Hid _ := hK9
 go_wp2_with (first | (refine wpList_load_row rfl 27 (.tmp 3) rfl C rfl 27 _ (0,0) _ (hq.out _ b8.out) Tryz.underlying27 rfl (info34 _) ?_) | (go_at_call 9; refine (h9.out _ b8.out).mono ?_; rintro e w9 ⟨z8,rfl,q3⟩; replace q3 : Hid _ := q3))
 refine hK9.out _ _ ?_
 clear hK9 K9 hq h9
 have i8 : Hid (ItsAt w9 z8 (tellL a)) := q3.out.its
 have i6 : Hid (ItsAt w9 z6 (tellL a)) := q2.out.below q3.out.bel (Nat.le_refl _)
 have b9 : Hid (Below W.heap.size W w9) := b8.out.trans (q3.out.bel.mono b8.out.size)
 clear q1 q2 q3 b8 hX
 go_wp2_with (first | (go_at_call 11; refine (h11.out _ _ i8.out i6.out).mono ?_; rintro e w10 ⟨rfl,q4⟩; replace q4 : Hid _ := q4; have b10 : Hid (Below W.heap.size W w10) := b9.out.trans (q4.out.mono b9.out.size)) | (go_at_call 14; refine (h14.out _ b10.out).mono ?_; rintro e w11 ⟨rfl,q5⟩; replace q5 : Hid _ := q5; have b11 : Hid (Below W.heap.size W w11) := b10.out.trans (q5.out.mono b10.out.size)))
 go_ret
 exact ⟨rfl,hB.out.trans (b11.out.mono hB.out.size)⟩
theorem tells_r4 (a : Pa) (v u : Value) (hlb : a.lb.size ≤ 9223372036854775807) (hms : ∀ i (h : i < a.ms.length),(a.ms[i]).size ≤ 9223372036854775807) (w W : World) (B C : Nat) (hB : Below w.heap.size w W) (hP : PB W B a) (hQ : PB W C (paW a v u)) (hA : PaAt W a) (hA2 : PaAt W (paW a v u)) (htb : Hy.Tab W) {v0 v2 v4 v5 v6 v7 v8 v9 xa xb xc xd xe xf xg xh xi xj xk xl xm xn xo xp xq xr xt xu xv xw xx xy xz xA xB xC xD xE xF xG xH xI xJ xK xL xM xN xO xP xQ xR xS xT xU xV xW xX xY xZ ya yb yc yd ye yf yg yh yi yj yk : Value} :
  rest4.wp Tryz.prog (bodyPost Tryz.prog Tryz.f3 fun e w' => e = .returned (.bool true) ∧ Below w.heap.size w w') (fr3 v0 (.pointer (some ⟨B,0,none⟩)) v2 (.pointer (some ⟨C,0,none⟩)) v4 v5 v6 v7 v8 v9 xa xb xc xd xe xf xg xh xi xj xk xl xm xn xo xp xq xr xt xu xv xw xx xy xz xA xB xC xD xE xF xG xH xI xJ xK xL xM xN xO xP xQ xR xS xT xU xV xW xX xY xZ ya yb yc yd ye yf yg yh yi yj yk) W := by
 have hp : Hid (∀ X,Below W.heap.size W X → X.heap[B]? = some (.cells (paC a) 27 (0,0))) := fun X h => (hP.below h hP.lt).row
 have hq : Hid (∀ X,Below W.heap.size W X → X.heap[C]? = some (.cells (paC (paW a v u)) 27 (0,0))) := fun X h => (hQ.below h hQ.lt).row
 have h9 : Hid (∀ X,Below W.heap.size W X → Calls Tryz.prog 9 #[.agg (paC (paW a v u))] X fun e w' => ∃ z,e = .returned (.tuple #[z,.int .i64 (chkI a)]) ∧ T9 a X w' z) := c9 a v u W hA2 htb
 have h10 : Hid (∀ X,Below W.heap.size W X → Calls Tryz.prog 10 #[.agg (paC a)] X fun e w' => ∃ z,e = .returned (.tuple #[z,.int .i64 (chkI a)]) ∧ T10 a X w' z) := fun X h => by
  refine (ritems_tell a hlb hms X (hA.below h (Nat.le_refl _))).mono ?_
  rintro e w' ⟨z,rfl,h1,h2,h3⟩
  exact ⟨z,rfl,h1,h2,h3⟩
 have h11 : Hid (∀ X x y,ItsAt X x (tellL a) → ItsAt X y (tellL a) → Calls Tryz.prog 11 #[x,y] X fun e w' => e = .returned (.bool true) ∧ Below X.heap.size X w') := fun X x y hx hy => sameItems_yes x y _ X (Nat.le_trans (tell_few a) (by decide)) hx hy
 have h12 : Hid (∀ X,Below W.heap.size W X → Calls Tryz.prog 12 #[.agg (paC (paW a v u)),.agg (paC a)] X fun e w' => e = .returned (.bool true) ∧ Below X.heap.size X w') := fun X h => samePara_yes a v u X (hA.below h (Nat.le_refl _)) (hA2.below h (Nat.le_refl _))
 have key : Hid (∀ (X : World) (z4 z6 : Value),Below W.heap.size W X → (Calls Tryz.prog 13 #[z4] X fun e w' => e = .returned (.tuple #[]) ∧ Below W.heap.size X w' ∧ ItsAt w' z6 (tellL a)) → ∀ v0 v2 v5 v7 v8 v9 xa xb xc xd xe xf xg xh xi xj xk xl xm xn xo xp xq xr xt xu xv xw xx xy xz xA xB xC xD xE xF xG xH xI xJ xK xL xM xN xO xP xQ xR xS xT xU xV xW xX xY xZ ya yb yc yd ye yf yg yh yi yj yk : Value,rest8.wp Tryz.prog (bodyPost Tryz.prog Tryz.f3 fun e w' => e = .returned (.bool true) ∧ Below w.heap.size w w') (fr3 v0 (.pointer (some ⟨B,0,none⟩)) v2 (.pointer (some ⟨C,0,none⟩)) z4 v5 z6 v7 v8 v9 xa xb xc xd xe xf xg xh xi xj xk xl xm xn xo xp xq xr xt xu xv xw xx xy xz xA xB xC xD xE xF xG xH xI xJ xK xL xM xN xO xP xQ xR xS xT xU xV xW xX xY xZ ya yb yc yd ye yf yg yh yi yj yk) X) := fun X z4 z6 h1 h3 v0 v2 v5 v7 v8 v9 xa xb xc xd xe xf xg xh xi xj xk xl xm xn xo xp xq xr xt xu xv xw xx xy xz xA xB xC xD xE xF xG xH xI xJ xK xL xM xN xO xP xQ xR xS xT xU xV xW xX xY xZ ya yb yc yd ye yf yg yh yi yj yk => tells_r8 a v u w W X B C hB hQ hA2 htb h1 z4 z6 h3
 generalize chkI a = ck at *
 clear hB hP hQ hA hA2 htb hlb hms
 unfold rest4 fr3
 apply wp_seq_k; intro K4 hK4
 replace hK4 : Hid _ := hK4
 go_wp2_with (first | (refine wpList_load_row rfl 27 (.tmp 3) rfl C rfl 27 _ (0,0) _ (hq.out _ (Below.refl _ _)) Tryz.underlying27 rfl (info34 _) ?_) | (go_at_call 9; refine (h9.out _ (Below.refl _ _)).mono ?_; rintro e w4 ⟨z4,rfl,q4⟩; replace q4 : Hid _ := q4))
 refine hK4.out _ _ ?_
 clear hK4 K4 h9
 have b4 : Hid (Below W.heap.size W w4) := q4.out.bel
 apply wp_seq_k; intro K5 hK5
 replace hK5 : Hid _ := hK5
 go_wp2_with (first | (refine wpList_load_row rfl 27 (.tmp 1) rfl B rfl 27 _ (0,0) _ (hp.out _ b4.out) Tryz.underlying27 rfl (info34 _) ?_) | (go_at_call 10; refine (h10.out _ b4.out).mono ?_; rintro e w5 ⟨z6,rfl,q5⟩; replace q5 : Hid _ := q5))
 refine hK5.out _ _ ?_
 clear hK5 K5 h10
 have b5 : Hid (Below W.heap.size W w5) := b4.out.trans (q5.out.bel.mono b4.out.size)
 have i4 : Hid (ItsAt w5 z4 (tellL a)) := q4.out.its.below q5.out.bel (Nat.le_refl _)
 have i6 : Hid (ItsAt w5 z6 (tellL a)) := q5.out.its
 apply wp_seq_k; intro K6 hK6
 replace hK6 : Hid _ := hK6
 apply wp_seq_k; intro K7 hK7
 replace hK7 : Hid _ := hK7
 go_wp2_with (first | (go_at_call 11; refine (h11.out _ _ _ i4.out i6.out).mono ?_; rintro e w6 ⟨rfl,q6⟩; replace q6 : Hid _ := q6; have b6 : Hid (Below W.heap.size W w6) := b5.out.trans (q6.out.mono b5.out.size)) | (refine wpList_load_want 27 (.tmp 3) rfl (by rfl) C rfl 27 _ (0,0) _ (hq.out _ b6.out) Tryz.underlying27 rfl (info34 _) ?_) | (refine wpList_load_want 27 (.tmp 1) rfl (by rfl) B rfl 27 _ (0,0) _ (hp.out _ b6.out) Tryz.underlying27 rfl (info34 _) ?_) | (go_at_call 12; refine (h12.out _ b6.out).mono ?_; rintro e w7 ⟨rfl,q7⟩; replace q7 : Hid _ := q7))
 refine hK7.out _ _ ?_
 clear hK7 K7 h11 h12 hp hq
 have b67 : Hid (Below w5.heap.size w5 w7) := q6.out.trans (q7.out.mono q6.out.size)
 have b7 : Hid (Below W.heap.size W w7) := b5.out.trans (b67.out.mono b5.out.size)
 have i7 : Hid (ItsAt w7 z6 (tellL a)) := q5.out.its.below b67.out (Nat.le_refl _)
 have b47 : Hid (Below w4.heap.size w4 w7) := q5.out.bel.trans (b67.out.mono q5.out.bel.size)
 have c13 : Hid (Calls Tryz.prog 13 #[z4] w7 fun e w' => e = .returned (.tuple #[]) ∧ Below W.heap.size w7 w' ∧ ItsAt w' z6 (tellL a)) := by
  obtain ⟨Y,hY,hc⟩ := q4.out.ovr
  refine (hc w7 b47.out).mono ?_
  rintro e w' ⟨rfl,ht⟩
  exact ⟨rfl,ht.below b7.out.size (fun k hk => (hY k hk).1),rec_turns i7.out ht (fun b o n c e hb => by have h1 := q5.out.new b o n c e; have h2 := (hY b hb).2; omega)⟩
 go_wp2_with fail
 refine hK6.out _ _ ?_
 exact key.out w7 z4 z6 b7.out c13.out _ _ _ _ _ _ _ _ _ _ _ _ _ _ _ _ _ _ _ _ _ _ _ _ _ _ _ _ _ _ _ _ _ _ _ _ _ _ _ _ _ _ _ _ _ _ _ _ _ _ _ _ _ _ _ _ _ _ _ _ _ _ _ _ _ _ _ _
theorem tells_rest (a : Pa) (hlb : a.lb.size ≤ 9223372036854775807) (hms : ∀ i (h : i < a.ms.length),(a.ms[i]).size ≤ 9223372036854775807) (h1 : a.sp.length ≤ 5000) (h2 : a.ms.length ≤ 5000) (w W : World) (B : Nat) (hB : Below w.heap.size w W) (hP : PB W B a) (hA : PaAt W a) (htb : Hy.Tab W) {v0 v2 v3 v4 v5 v6 v7 v8 v9 xa xb xc xd xe xf xg xh xi xj xk xl xm xn xo xp xq xr xt xu xv xw xx xy xz xA xB xC xD xE xF xG xH xI xJ xK xL xM xN xO xP xQ xR xS xT xU xV xW xX xY xZ ya yb yc yd ye yf yg yh yi yj yk : Value} :
  rest3.wp Tryz.prog (bodyPost Tryz.prog Tryz.f3 fun e w' => e = .returned (.bool true) ∧ Below w.heap.size w w') (fr3 v0 (.pointer (some ⟨B,0,none⟩)) v2 v3 v4 v5 v6 v7 v8 v9 xa xb xc xd xe xf xg xh xi xj xk xl xm xn xo xp xq xr xt xu xv xw xx xy xz xA xB xC xD xE xF xG xH xI xJ xK xL xM xN xO xP xQ xR xS xT xU xV xW xX xY xZ ya yb yc yd ye yf yg yh yi yj yk) W := by
 have hcp : Hid (Calls Tryz.prog 8 #[.agg (paC a)] W fun e w' => ∃ v u,e = .returned (.agg (paC (paW a v u))) ∧ PaAt w' (paW a v u) ∧ Below W.heap.size W w') := copy_any a h1 h2 W hA
 have hz : Hid (∀ w2 : World,(w2.alloc (.cells (paC zeroP) 27)).heap[w2.heap.size]? = some (.cells (paC zeroP) 27 (0,0))) := fun w2 => (PB.new w2 zeroP).row
 dsimp only [paC,zeroP] at hz
 have hfw := tell_few a
 replace hB : Hid _ := hB
 unfold rest3 fr3
 apply wp_seq_k; intro K3 hK3
 replace hK3 : Hid _ := hK3
 go_wp2_with (first | (refine wpList_load_row rfl 27 (.tmp 1) rfl B rfl 27 _ (0,0) _ hP.row Tryz.underlying27 rfl (info34 a) ?_) | (go_at_call 8; refine hcp.out.mono ?_; rintro e w2 ⟨v,u,rfl,hA2,hb2⟩; replace hA2 : Hid _ := hA2; replace hb2 : Hid _ := hb2) | (refine wpList_store_row rfl 27 (.tmp 3) (.tmp 33) rfl w2.heap.size (paC (paW a v u)) rfl rfl 27 _ (hz.out w2) (info34 _) rfl (paC_one _ (pa_sv2 hA2.out) (pa_mv2 hA2.out)) ?_))
 refine hK3.out _ _ ?_
 clear hK3 K3 hcp hz
 obtain ⟨hPq,hbq⟩ := row_new2 w2 (paW a v u)
 dsimp only [paC,zeroP] at hPq hbq
 change PB _ _ (paW a v u) at hPq
 have g1 : Below W.heap.size W _ := hb2.out.trans (hbq.mono hb2.out.size)
 exact tells_r4 a v u hlb hms w _ B _ (hB.out.trans (g1.mono hB.out.size)) (hP.below g1 hP.lt) hPq (hA.below g1 (Nat.le_refl _)) (hA2.out.below hbq (Nat.le_refl _)) (htb.below g1)
theorem tells_any (a : Pa) (hlb : a.lb.size ≤ 9223372036854775807) (hms : ∀ i (h : i < a.ms.length),(a.ms[i]).size ≤ 9223372036854775807) (w : World) (hA : PaAt w a) (htb : Hy.Tab w) : Calls Tryz.prog 3 #[.agg (paC a)] w fun e w' => e = .returned (.bool true) ∧ Below w.heap.size w w' := by
 by_cases h : skB a
 ·exact tells_skip a w hA h
 have hB := (Below.refl w.heap.size w).alloc (Nat.le_refl _) (Obj.cells (paC a) 27)
 have hP := PB.new w a
 have c0 := hP.c0
 have c1 := hP.c1
 have c20 := hP.c20
 obtain ⟨x1,y1,e1,-⟩ := hA.sp.ex
 obtain ⟨x2,y2,e2,-⟩ := hA.ms.ex
 rw [e1] at c1
 rw [e2] at c20
 have hs : a.sp.length ≤ 5000 ∧ a.ms.length ≤ 5000 ∧ (a.t.size ≤ 1500 ∨ 4096 < a.t.size) := by
  unfold skB at h
  omega
 have key : Hid (∀ v0 v2 v3 v4 v5 v6 v7 v8 v9 xa xb xc xd xe xf xg xh xi xj xk xl xm xn xo xp xq xr xt xu xv xw xx xy xz xA xB xC xD xE xF xG xH xI xJ xK xL xM xN xO xP xQ xR xS xT xU xV xW xX xY xZ ya yb yc yd ye yf yg yh yi yj yk : Value,rest3.wp Tryz.prog (bodyPost Tryz.prog Tryz.f3 fun e w' => e = .returned (.bool true) ∧ Below w.heap.size w w') (fr3 v0 (.pointer (some ⟨w.heap.size,0,none⟩)) v2 v3 v4 v5 v6 v7 v8 v9 xa xb xc xd xe xf xg xh xi xj xk xl xm xn xo xp xq xr xt xu xv xw xx xy xz xA xB xC xD xE xF xG xH xI xJ xK xL xM xN xO xP xQ xR xS xT xU xV xW xX xY xZ ya yb yc yd ye yf yg yh yi yj yk) (w.alloc (.cells (paC a) 27))) := fun v0 v2 v3 v4 v5 v6 v7 v8 v9 xa xb xc xd xe xf xg xh xi xj xk xl xm xn xo xp xq xr xt xu xv xw xx xy xz xA xB xC xD xE xF xG xH xI xJ xK xL xM xN xO xP xQ xR xS xT xU xV xW xX xY xZ ya yb yc yd ye yf yg yh yi yj yk => tells_rest a hlb hms hs.1 hs.2.1 w _ _ hB hP (hA.below hB (Nat.le_refl _)) (htb.below hB)
 have d3 : ¬ (5000 : Int) < a.sp.length := by omega
 have d4 : ¬ (5000 : Int) < a.ms.length := by omega
 clear hA hP e1 e2 htb hB h
 generalize hw1 : w.alloc (.cells (paC a) 27) = w1 at *
 by_cases h4 : 1500 < a.t.size
 ·have d1 : (1500 : Int) < a.t.size := by omega
  have d2 : ¬ (a.t.size : Int) ≤ 4096 := by omega
  clear hs
  go_enter Tryz.func3,Tryz.ntmps3
  change Code.wp Tryz.prog ((Code.region 0 #[⟨some 1,.box 27 (.tmp 0),0,"law.go:12",#[],none⟩,⟨some 2,.assign (.const (.bool false)),4,"law.go:12",#[],none⟩] false).seq (((Code.region 1 #[⟨some 10,.fieldAddr 27 (.tmp 1) 0,0,"law.go:13",#[],none⟩,⟨some 11,.load 9 (.tmp 10),9,"law.go:13",#[⟨0,.data⟩],none⟩,⟨some 12,.call ⟨.builtin .len,#[.tmp 11],#[9]⟩,3,"law.go:13",#[⟨1,.data⟩],none⟩,⟨some 13,.binOp .gtr 3 (.tmp 12) (.const (.int .i64 1500)) 3,4,"law.go:13",#[⟨2,.data⟩],none⟩,⟨some 14,.move (.tmp 13),4,"law.go:13",#[⟨3,.data⟩],none⟩,⟨some 15,.fieldAddr 27 (.tmp 1) 0,0,"law.go:13",#[⟨4,.guard⟩],some (4,true)⟩,⟨some 16,.load 9 (.tmp 15),9,"law.go:13",#[⟨5,.data⟩,⟨4,.guard⟩],some (4,true)⟩,⟨some 17,.call ⟨.builtin .len,#[.tmp 16],#[9]⟩,3,"law.go:13",#[⟨6,.data⟩,⟨4,.guard⟩],some (4,true)⟩,⟨some 18,.binOp .leq 3 (.tmp 17) (.const (.int .i64 4096)) 3,4,"law.go:13",#[⟨7,.data⟩,⟨4,.guard⟩],some (4,true)⟩,⟨some 19,.pick (.tmp 14) (.tmp 18) (.const (.bool false)),4,"law.go:13",#[⟨4,.data⟩,⟨8,.data⟩],none⟩,⟨some 20,.move (.tmp 19),4,"law.go:13",#[⟨9,.data⟩,⟨4,.chain⟩],none⟩,⟨some 21,.fieldAddr 27 (.tmp 1) 1,0,"law.go:13",#[⟨10,.guard⟩],some (10,false)⟩,⟨some 22,.load 22 (.tmp 21),22,"law.go:13",#[⟨11,.data⟩,⟨10,.guard⟩],some (10,false)⟩,⟨some 23,.call ⟨.builtin .len,#[.tmp 22],#[22]⟩,3,"law.go:13",#[⟨12,.data⟩,⟨10,.guard⟩],some (10,false)⟩,⟨some 24,.binOp .gtr 3 (.tmp 23) (.const (.int .i64 5000)) 3,4,"law.go:13",#[⟨13,.data⟩,⟨10,.guard⟩],some (10,false)⟩,⟨some 25,.pick (.tmp 20) (.const (.bool true)) (.tmp 24),4,"law.go:13",#[⟨10,.data⟩,⟨14,.data⟩],none⟩,⟨some 26,.move (.tmp 25),4,"law.go:13",#[⟨15,.data⟩,⟨10,.chain⟩],none⟩,⟨some 27,.fieldAddr 27 (.tmp 1) 4,0,"law.go:13",#[⟨16,.guard⟩],some (16,false)⟩,⟨some 28,.load 25 (.tmp 27),25,"law.go:13",#[⟨17,.data⟩,⟨16,.guard⟩],some (16,false)⟩,⟨some 29,.call ⟨.builtin .len,#[.tmp 28],#[25]⟩,3,"law.go:13",#[⟨18,.data⟩,⟨16,.guard⟩],some (16,false)⟩,⟨some 30,.binOp .gtr 3 (.tmp 29) (.const (.int .i64 5000)) 3,4,"law.go:13",#[⟨19,.data⟩,⟨16,.guard⟩],some (16,false)⟩,⟨some 31,.pick (.tmp 26) (.const (.bool true)) (.tmp 30),4,"law.go:13",#[⟨16,.data⟩,⟨20,.data⟩],none⟩] false).seq (Code.cond (Operand.tmp 31) ((Code.region 2 #[⟨some 2,.assign (.const (.bool true)),4,"law.go:14",#[],none⟩] false).seq Code.ret) Code.skip)).seq rest3)) _ _ _
  go_wp2_with fail
  exact key.out _ _ _ _ _ _ _ _ _ _ _ _ _ _ _ _ _ _ _ _ _ _ _ _ _ _ _ _ _ _ _ _ _ _ _ _ _ _ _ _ _ _ _ _ _ _ _ _ _ _ _ _ _ _ _ _ _ _ _ _ _ _ _ _ _ _ _ _ _ _ _
 ·have d1 : ¬ (1500 : Int) < a.t.size := by omega
  clear hs
  go_enter Tryz.func3,Tryz.ntmps3
  change Code.wp Tryz.prog ((Code.region 0 #[⟨some 1,.box 27 (.tmp 0),0,"law.go:12",#[],none⟩,⟨some 2,.assign (.const (.bool false)),4,"law.go:12",#[],none⟩] false).seq (((Code.region 1 #[⟨some 10,.fieldAddr 27 (.tmp 1) 0,0,"law.go:13",#[],none⟩,⟨some 11,.load 9 (.tmp 10),9,"law.go:13",#[⟨0,.data⟩],none⟩,⟨some 12,.call ⟨.builtin .len,#[.tmp 11],#[9]⟩,3,"law.go:13",#[⟨1,.data⟩],none⟩,⟨some 13,.binOp .gtr 3 (.tmp 12) (.const (.int .i64 1500)) 3,4,"law.go:13",#[⟨2,.data⟩],none⟩,⟨some 14,.move (.tmp 13),4,"law.go:13",#[⟨3,.data⟩],none⟩,⟨some 15,.fieldAddr 27 (.tmp 1) 0,0,"law.go:13",#[⟨4,.guard⟩],some (4,true)⟩,⟨some 16,.load 9 (.tmp 15),9,"law.go:13",#[⟨5,.data⟩,⟨4,.guard⟩],some (4,true)⟩,⟨some 17,.call ⟨.builtin .len,#[.tmp 16],#[9]⟩,3,"law.go:13",#[⟨6,.data⟩,⟨4,.guard⟩],some (4,true)⟩,⟨some 18,.binOp .leq 3 (.tmp 17) (.const (.int .i64 4096)) 3,4,"law.go:13",#[⟨7,.data⟩,⟨4,.guard⟩],some (4,true)⟩,⟨some 19,.pick (.tmp 14) (.tmp 18) (.const (.bool false)),4,"law.go:13",#[⟨4,.data⟩,⟨8,.data⟩],none⟩,⟨some 20,.move (.tmp 19),4,"law.go:13",#[⟨9,.data⟩,⟨4,.chain⟩],none⟩,⟨some 21,.fieldAddr 27 (.tmp 1) 1,0,"law.go:13",#[⟨10,.guard⟩],some (10,false)⟩,⟨some 22,.load 22 (.tmp 21),22,"law.go:13",#[⟨11,.data⟩,⟨10,.guard⟩],some (10,false)⟩,⟨some 23,.call ⟨.builtin .len,#[.tmp 22],#[22]⟩,3,"law.go:13",#[⟨12,.data⟩,⟨10,.guard⟩],some (10,false)⟩,⟨some 24,.binOp .gtr 3 (.tmp 23) (.const (.int .i64 5000)) 3,4,"law.go:13",#[⟨13,.data⟩,⟨10,.guard⟩],some (10,false)⟩,⟨some 25,.pick (.tmp 20) (.const (.bool true)) (.tmp 24),4,"law.go:13",#[⟨10,.data⟩,⟨14,.data⟩],none⟩,⟨some 26,.move (.tmp 25),4,"law.go:13",#[⟨15,.data⟩,⟨10,.chain⟩],none⟩,⟨some 27,.fieldAddr 27 (.tmp 1) 4,0,"law.go:13",#[⟨16,.guard⟩],some (16,false)⟩,⟨some 28,.load 25 (.tmp 27),25,"law.go:13",#[⟨17,.data⟩,⟨16,.guard⟩],some (16,false)⟩,⟨some 29,.call ⟨.builtin .len,#[.tmp 28],#[25]⟩,3,"law.go:13",#[⟨18,.data⟩,⟨16,.guard⟩],some (16,false)⟩,⟨some 30,.binOp .gtr 3 (.tmp 29) (.const (.int .i64 5000)) 3,4,"law.go:13",#[⟨19,.data⟩,⟨16,.guard⟩],some (16,false)⟩,⟨some 31,.pick (.tmp 26) (.const (.bool true)) (.tmp 30),4,"law.go:13",#[⟨16,.data⟩,⟨20,.data⟩],none⟩] false).seq (Code.cond (Operand.tmp 31) ((Code.region 2 #[⟨some 2,.assign (.const (.bool true)),4,"law.go:14",#[],none⟩] false).seq Code.ret) Code.skip)).seq rest3)) _ _ _
  go_wp2_with fail
  exact key.out _ _ _ _ _ _ _ _ _ _ _ _ _ _ _ _ _ _ _ _ _ _ _ _ _ _ _ _ _ _ _ _ _ _ _ _ _ _ _ _ _ _ _ _ _ _ _ _ _ _ _ _ _ _ _ _ _ _ _ _ _ _ _ _ _ _ _ _ _ _ _
end Go.Proofs.YthcphnifnfnceaaGreatDoor
