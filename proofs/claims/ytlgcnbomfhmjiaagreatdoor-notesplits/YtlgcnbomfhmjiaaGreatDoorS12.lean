/-
  What is proved here: what labelRoom and takers of para answer.
  What is proved here: what metric.Check and refuse of para answer.
-/
import Derived.Test.YtlgcnbomfhmjiaaGreatDoorS8
import Derived.Test.YtlgcnbomfhmjiaaGreatDoorS11
import Derived.Test.YtlgcnbomfhmjiaaGreatDoorS4
namespace Go.Proofs.YtlgcnbomfhmjiaaGreatDoor
open Go.RowKit Go.Shelf
set_option maxRecDepth 100000
set_option maxHeartbeats 2000000

theorem wVal_big (t : ByteArray) (s : Int) : 0 ≤ wVal t s ∧ wVal t s ≤ 262144 := by
 rcases wErr_cases t s with ⟨_,e,_⟩ | ⟨_,e,_⟩ | ⟨_,e,h1,h2,h3⟩
 ·rw [e]; omega
 ·rw [e]; omega
 ·rw [e]
  have := tw_rng t (s := s) (by omega) h2 t.size
  unfold widthI
  omega
def lbI (a : Pa) : Int := if a.lb.size = 0 then 0 else wVal a.lb a.p.p0 + 4
def tkP (a : Pa) : Tk := ⟨a.p.p4,a.p.p3,lbI a,drV a,a.p.p5,a.p.p14,9223372036854775807⟩
theorem tkP_ok {a : Pa} (h : chkI a = 0) : (tkP a).ok := by
 have hG := good_of h
 have h3 := List.all_eq_true.1 hG.pr (a.p.p3,0,255) (by simp [prB])
 have h4 := List.all_eq_true.1 hG.pr (a.p.p4,0,255) (by simp [prB])
 have h5 := List.all_eq_true.1 hG.pr (a.p.p5,0,255) (by simp [prB])
 simp [bdB] at h3 h4 h5
 have hw := wVal_big a.lb a.p.p0
 have hl : 0 ≤ lbI a ∧ lbI a ≤ 1000000 := by unfold lbI; split <;> omega
 have hd : 0 ≤ drV a ∧ drV a ≤ 1000000 := by
  have := cwI_rng a
  unfold drV; split <;> omega
 exact ⟨⟨by show 0 ≤ a.p.p4; omega,by show a.p.p4 ≤ _; omega⟩,⟨by show 0 ≤ a.p.p3; omega,by show a.p.p3 ≤ _; omega⟩,hl,hd,⟨by show 0 ≤ a.p.p5; omega,by show a.p.p5 ≤ _; omega⟩⟩
theorem lempty (s : ByteArray) : s.toList.isEmpty = decide (s.size = 0) := by
 obtain ⟨⟨l⟩⟩ := s
 rw [ByteArray.toList_eq]
 cases l <;> simp [ByteArray.size]
theorem from90 (r m : Int) (w : World) : Calls Tryz.prog 80 #[.int .i64 r,.int .i64 m] w fun e w' => (∃ v,e = .returned v ∧ ClL w' v r m) ∧ Below w.heap.size w w' := by
 go_enter Tryz.func80,Tryz.ntmps80
 go_wp2_with fail
 go_ret
 exact ⟨⟨_,rfl,⟨_,_,rfl,alloc2_heap w _ _,(Below.heap_alloc _ _ _ (by simp)).trans (World.alloc_heap_new w _)⟩⟩,below2 w _ _⟩
theorem from92 (r : Int) (w : World) : Calls Tryz.prog 82 #[.int .i64 r] w fun e w' => (∃ v,e = .returned v ∧ ClR w' v r) ∧ Below w.heap.size w w' := by
 go_enter Tryz.func82,Tryz.ntmps82
 go_wp2_with fail
 go_ret
 exact ⟨⟨_,rfl,⟨_,rfl,World.alloc_heap_new w _⟩⟩,(Below.refl w.heap.size w).alloc (Nat.le_refl _) _⟩
theorem label91 (a : Pa) (w : World) : Calls Tryz.prog 81 #[paV a] w fun e w' => e = .returned (.int .i64 (lbI a)) ∧ Below w.heap.size w w' := by
 have hB := (Below.refl w.heap.size w).alloc (Nat.le_refl _) (Obj.cells (paC a) 36)
 have hP := PB.new w a
 have c19 := hP.c19
 have c2 := hP.c2
 have hw := Width_any a.lb a.p.p0 (w.alloc (.cells (paC a) 36))
 have hr : Hid (a.lb.size ≠ 0 → -1000000000 ≤ wVal a.lb a.p.p0 ∧ wVal a.lb a.p.p0 ≤ 1000000000) := fun _ => ⟨by have := (wVal_big a.lb a.p.p0).1; omega,by have := (wVal_big a.lb a.p.p0).2; omega⟩
 clear hP
 unfold paV lbI
 generalize hw1 : w.alloc (.cells (paC a) 36) = w1 at *
 by_cases hz : a.lb.size = 0
 ·rw [if_pos hz]
  have e : a.lb.toList.isEmpty = true := by rw [lempty]; exact decide_eq_true hz
  clear hw hr
  go_enter Tryz.func81,Tryz.ntmps81
  go_wp2_with fail
  go_ret
  exact ⟨rfl,hB⟩
 ·rw [if_neg hz]
  obtain ⟨r1,r2⟩ := hr.out hz
  have e : a.lb.toList.isEmpty = false := by rw [lempty]; exact decide_eq_false hz
  clear hr
  generalize wVal a.lb a.p.p0 = x at *
  go_enter Tryz.func81,Tryz.ntmps81
  go_wp2_with (go_at_call 121; refine hw.mono ?_; rintro e w2 ⟨rfl,rfl⟩)
  go_ret
  exact ⟨rfl,hB⟩
structure TkW (B : Nat) (a : Pa) (W : World) : Prop where
 p : PB W B a
theorem TkW.c4 {B : Nat} {a : Pa} {W : World} (h : TkW B a W) : W.cell? ⟨B,6,none⟩ = some (.int .i64 a.p.p4) := h.p.cell rfl
theorem TkW.c3 {B : Nat} {a : Pa} {W : World} (h : TkW B a W) : W.cell? ⟨B,5,none⟩ = some (.int .i64 a.p.p3) := h.p.cell rfl
theorem TkW.c14 {B : Nat} {a : Pa} {W : World} (h : TkW B a W) : W.cell? ⟨B,16,none⟩ = some (.int .i64 a.p.p14) := h.p.cell rfl
theorem TkW.c5 {B : Nat} {a : Pa} {W : World} (h : TkW B a W) : W.cell? ⟨B,7,none⟩ = some (.int .i64 a.p.p5) := h.p.cell rfl
theorem run_build5 (W : World) (a0 b0 a1 b1 a2 b2 a3 b3 b4 : Nat) : (Instr.buildSlice 94 5 #[(0,clL a0 b0),(1,clL a1 b1),(2,clL a2 b2),(3,clL a3 b3),(4,clR b4)]).run Tryz.prog W = .ok (.slice (some ⟨W.heap.size,0,none⟩) 5 5) (W.alloc (.cells #[clL a0 b0,clL a1 b1,clL a2 b2,clL a3 b3,clR b4] 126)) := by
 kernel_rfl
theorem wp_build5 {oi : Oper} {a : Act} {w : World} {K : Act → World → Prop} {Q : Exit → Act → World → Prop} (y0 y1 y2 y3 y4 : Operand) (ho : oi.op = .buildSlice 94 5 #[(0,y0),(1,y1),(2,y2),(3,y3),(4,y4)]) (a0 b0 a1 b1 a2 b2 a3 b3 b4 : Nat)
  (e0 : a.eval y0 = clL a0 b0) (e1 : a.eval y1 = clL a1 b1) (e2 : a.eval y2 = clL a2 b2) (e3 : a.eval y3 = clL a3 b3) (e4 : a.eval y4 = clR b4)
  (h : K (a.put oi.dst (.slice (some ⟨w.heap.size,0,none⟩) 5 5)) (w.alloc (.cells #[clL a0 b0,clL a1 b1,clL a2 b2,clL a3 b3,clR b4] 126))) : oi.wp Tryz.prog a w K Q := by
 have hr := run_build5 w a0 b0 a1 b1 a2 b2 a3 b3 b4
 unfold Oper.wp execOp
 simp only [ho,List.map_toArray,List.map_cons,List.map_nil,e0,e1,e2,e3,e4,Sem.run_bind,Sem.run_pure,Result.andThen_ok,hr]
 exact h
def frp45 (v0 v1 v2 v3 v4 v5 v6 v7 v8 v9 xa xb xc xd xe xf xg xh xi xj xk xl xm xn xo xp xq xr xt xu xv : Value) : Act := { tmps := #[v0,v1,v2,v3,v4,v5,v6,v7,v8,v9,xa,xb,xc,xd,xe,xf,xg,xh,xi,xj,xk,xl,xm,xn,xo,xp,xq,xr,xt,xu,xv],defers := [] }
def opp45_2_0 (ps _p1 _p2 _p3 _p4 _p5 : String) : Oper := ⟨some 10,.fieldAddr 36 (.tmp 1) 2,0,ps,#[],none⟩
def opp45_2_1 (ps _p1 _p2 _p3 _p4 _p5 : String) : Oper := ⟨some 11,.fieldAddr 33 (.tmp 10) 4,0,ps,#[⟨0,.data⟩],none⟩
def opp45_2_2 (ps _p1 _p2 _p3 _p4 _p5 : String) : Oper := ⟨some 12,.load 3 (.tmp 11),3,ps,#[⟨1,.data⟩],none⟩
def opp45_2_3 (_ps p1 _p2 _p3 _p4 _p5 : String) : Oper := ⟨some 13,.call ⟨.value (.func 80),#[.tmp 12,.const (.int .i64 9223372036854775807)],#[3,3]⟩,126,p1,#[⟨2,.data⟩],none⟩
def opp45_2_4 (ps _p1 _p2 _p3 _p4 _p5 : String) : Oper := ⟨some 14,.fieldAddr 36 (.tmp 1) 2,0,ps,#[],none⟩
def opp45_2_5 (ps _p1 _p2 _p3 _p4 _p5 : String) : Oper := ⟨some 15,.fieldAddr 33 (.tmp 14) 3,0,ps,#[⟨4,.data⟩],none⟩
def opp45_2_6 (ps _p1 _p2 _p3 _p4 _p5 : String) : Oper := ⟨some 16,.load 3 (.tmp 15),3,ps,#[⟨5,.data⟩],none⟩
def opp45_2_7 (_ps _p1 p2 _p3 _p4 _p5 : String) : Oper := ⟨some 17,.call ⟨.value (.func 80),#[.tmp 16,.const (.int .i64 1)],#[3,3]⟩,126,p2,#[⟨6,.data⟩,⟨3,.chain⟩],none⟩
def opp45_2_8 (ps _p1 _p2 _p3 _p4 _p5 : String) : Oper := ⟨some 18,.load 36 (.tmp 1),36,ps,#[],none⟩
def opp45_2_9 (_ps _p1 _p2 p3 _p4 _p5 : String) : Oper := ⟨some 19,.call ⟨.value (.func 81),#[.tmp 18],#[36]⟩,3,p3,#[⟨8,.data⟩,⟨7,.chain⟩],none⟩
def opp45_2_10 (_ps _p1 _p2 p3 _p4 _p5 : String) : Oper := ⟨some 20,.call ⟨.value (.func 80),#[.tmp 19,.const (.int .i64 1)],#[3,3]⟩,126,p3,#[⟨9,.data⟩,⟨9,.chain⟩],none⟩
def opp45_2_11 (ps _p1 _p2 _p3 _p4 _p5 : String) : Oper := ⟨some 21,.move (.tmp 3),3,ps,#[],none⟩
def opp45_2_12 (ps _p1 _p2 _p3 _p4 _p5 : String) : Oper := ⟨some 22,.fieldAddr 36 (.tmp 1) 2,0,ps,#[],none⟩
def opp45_2_13 (ps _p1 _p2 _p3 _p4 _p5 : String) : Oper := ⟨some 23,.fieldAddr 33 (.tmp 22) 14,0,ps,#[⟨12,.data⟩],none⟩
def opp45_2_14 (ps _p1 _p2 _p3 _p4 _p5 : String) : Oper := ⟨some 24,.load 3 (.tmp 23),3,ps,#[⟨13,.data⟩],none⟩
def opp45_2_15 (_ps _p1 _p2 _p3 p4 _p5 : String) : Oper := ⟨some 25,.call ⟨.value (.func 80),#[.tmp 21,.tmp 24],#[3,3]⟩,126,p4,#[⟨11,.data⟩,⟨14,.data⟩,⟨10,.chain⟩],none⟩
def opp45_2_16 (ps _p1 _p2 _p3 _p4 _p5 : String) : Oper := ⟨some 26,.fieldAddr 36 (.tmp 1) 2,0,ps,#[],none⟩
def opp45_2_17 (ps _p1 _p2 _p3 _p4 _p5 : String) : Oper := ⟨some 27,.fieldAddr 33 (.tmp 26) 5,0,ps,#[⟨16,.data⟩],none⟩
def opp45_2_18 (ps _p1 _p2 _p3 _p4 _p5 : String) : Oper := ⟨some 28,.load 3 (.tmp 27),3,ps,#[⟨17,.data⟩],none⟩
def opp45_2_19 (_ps _p1 _p2 _p3 _p4 p5 : String) : Oper := ⟨some 29,.call ⟨.value (.func 82),#[.tmp 28],#[3]⟩,126,p5,#[⟨18,.data⟩,⟨15,.chain⟩],none⟩
def opp45_2_20 (ps _p1 _p2 _p3 _p4 _p5 : String) : Oper := ⟨some 30,.buildSlice 94 5 #[(0,.tmp 13),(1,.tmp 17),(2,.tmp 20),(3,.tmp 25),(4,.tmp 29)],94,ps,#[⟨3,.data⟩,⟨7,.data⟩,⟨10,.data⟩,⟨15,.data⟩,⟨19,.data⟩],none⟩
def opp45_2_21 (ps _p1 _p2 _p3 _p4 _p5 : String) : Oper := ⟨some 2,.assign (.tmp 30),94,ps,#[⟨20,.data⟩,⟨19,.chain⟩,⟨0,.phase⟩,⟨1,.phase⟩,⟨2,.phase⟩,⟨3,.phase⟩,⟨4,.phase⟩,⟨5,.phase⟩,⟨6,.phase⟩,⟨7,.phase⟩,⟨8,.phase⟩,⟨9,.phase⟩,⟨10,.phase⟩,⟨11,.phase⟩,⟨12,.phase⟩,⟨13,.phase⟩,⟨14,.phase⟩,⟨15,.phase⟩,⟨16,.phase⟩,⟨17,.phase⟩,⟨18,.phase⟩,⟨19,.phase⟩,⟨20,.phase⟩],none⟩
def opp45_2 (ps p1 p2 p3 p4 p5 : String) : Array Oper := #[opp45_2_0 ps p1 p2 p3 p4 p5,opp45_2_1 ps p1 p2 p3 p4 p5,opp45_2_2 ps p1 p2 p3 p4 p5,opp45_2_3 ps p1 p2 p3 p4 p5,opp45_2_4 ps p1 p2 p3 p4 p5,opp45_2_5 ps p1 p2 p3 p4 p5,opp45_2_6 ps p1 p2 p3 p4 p5,opp45_2_7 ps p1 p2 p3 p4 p5,opp45_2_8 ps p1 p2 p3 p4 p5,opp45_2_9 ps p1 p2 p3 p4 p5,opp45_2_10 ps p1 p2 p3 p4 p5,opp45_2_11 ps p1 p2 p3 p4 p5,opp45_2_12 ps p1 p2 p3 p4 p5,opp45_2_13 ps p1 p2 p3 p4 p5,opp45_2_14 ps p1 p2 p3 p4 p5,opp45_2_15 ps p1 p2 p3 p4 p5,opp45_2_16 ps p1 p2 p3 p4 p5,opp45_2_17 ps p1 p2 p3 p4 p5,opp45_2_18 ps p1 p2 p3 p4 p5,opp45_2_19 ps p1 p2 p3 p4 p5,opp45_2_20 ps p1 p2 p3 p4 p5,opp45_2_21 ps p1 p2 p3 p4 p5]

theorem tk_r2 (Q : Exit → Act → World → Prop) (hQ : ∀ c x (n : Nat) v w,Q (.panic c) (x.put (some n) v) w → Q (.panic c) x w) (id : Nat) (ps p1 p2 p3 p4 p5 : String) {v0 v2 v4 v5 v6 v7 v8 v9 xa xb xc xd xe xf xg xh xi xj xk xl xm xn xo xp xq xr xt xu xv : Value} (z : World) (B : Nat) (a : Pa) (c : Int) (w : World) (hS : TkW B a (World.drew w))
  (hz0 : Below z.heap.size z (World.drew w))
  (hq : ∀ u0 u1 u2 u3 u4 u w',TkAt w' u ⟨a.p.p4,a.p.p3,lbI a,c,a.p.p5,a.p.p14,9223372036854775807⟩ → Below z.heap.size z w' → Q .normal (frp45 v0 (.pointer (some ⟨B,0,none⟩)) u (.int .i64 c) v4 v5 v6 v7 v8 v9 (.pointer (some ⟨B,2,none⟩)) (.pointer (some ⟨B,6,none⟩)) (.int .i64 a.p.p4) u0 (.pointer (some ⟨B,2,none⟩)) (.pointer (some ⟨B,5,none⟩)) (.int .i64 a.p.p3) u1 (.agg (paC a)) (.int .i64 (lbI a)) u2 (.int .i64 c) (.pointer (some ⟨B,2,none⟩)) (.pointer (some ⟨B,16,none⟩)) (.int .i64 a.p.p14) u3 (.pointer (some ⟨B,2,none⟩)) (.pointer (some ⟨B,7,none⟩)) (.int .i64 a.p.p5) u4 u) w') :
  (Code.region id (opp45_2 ps p1 p2 p3 p4 p5) true).wp Tryz.prog Q (frp45 v0 (.pointer (some ⟨B,0,none⟩)) v2 (.int .i64 c) v4 v5 v6 v7 v8 v9 xa xb xc xd xe xf xg xh xi xj xk xl xm xn xo xp xq xr xt xu xv) w := by
 refine wp_region_held (S := TkW B a) (by kernel_rfl) ?_
 change wpAnyH _ _ _ _ _ 22 _ _ (World.drew w)
 refine take_h (i := 0) (oi := opp45_2_0 ps p1 p2 p3 p4 p5) (fuel := 21) (v := (.pointer (some ⟨B,2,none⟩))) (frp45 v0 (.pointer (some ⟨B,0,none⟩)) v2 (.int .i64 c) v4 v5 v6 v7 v8 v9 (.pointer (some ⟨B,2,none⟩)) xb xc xd xe xf xg xh xi xj xk xl xm xn xo xp xq xr xt xu xv) (by kernel_rfl) (by kernel_rfl) (by kernel_rfl) (by kernel_rfl) (fun c x w => hQ c x _ _ w) (by kernel_rfl) (fun w hS => by unfold frp45 opp45_2_0; go_simp) (by kernel_rfl) hS ?_
 refine take_h (i := 1) (oi := opp45_2_1 ps p1 p2 p3 p4 p5) (fuel := 20) (v := (.pointer (some ⟨B,6,none⟩))) (frp45 v0 (.pointer (some ⟨B,0,none⟩)) v2 (.int .i64 c) v4 v5 v6 v7 v8 v9 (.pointer (some ⟨B,2,none⟩)) (.pointer (some ⟨B,6,none⟩)) xc xd xe xf xg xh xi xj xk xl xm xn xo xp xq xr xt xu xv) (by kernel_rfl) (by kernel_rfl) (by kernel_rfl) (by kernel_rfl) (fun c x w => hQ c x _ _ w) (by kernel_rfl) (fun w hS => by unfold frp45 opp45_2_1; go_simp) (by kernel_rfl) hS ?_
 refine take_h (i := 2) (oi := opp45_2_2 ps p1 p2 p3 p4 p5) (fuel := 19) (v := (.int .i64 a.p.p4)) (frp45 v0 (.pointer (some ⟨B,0,none⟩)) v2 (.int .i64 c) v4 v5 v6 v7 v8 v9 (.pointer (some ⟨B,2,none⟩)) (.pointer (some ⟨B,6,none⟩)) (.int .i64 a.p.p4) xd xe xf xg xh xi xj xk xl xm xn xo xp xq xr xt xu xv) (by kernel_rfl) (by kernel_rfl) (by kernel_rfl) (by kernel_rfl) (fun c x w => hQ c x _ _ w) (by kernel_rfl) (fun w hS => by have e := hS.c4; unfold frp45 opp45_2_2; go_simp) (by kernel_rfl) hS ?_
 refine take_h (i := 4) (oi := opp45_2_4 ps p1 p2 p3 p4 p5) (fuel := 18) (v := (.pointer (some ⟨B,2,none⟩))) (frp45 v0 (.pointer (some ⟨B,0,none⟩)) v2 (.int .i64 c) v4 v5 v6 v7 v8 v9 (.pointer (some ⟨B,2,none⟩)) (.pointer (some ⟨B,6,none⟩)) (.int .i64 a.p.p4) xd (.pointer (some ⟨B,2,none⟩)) xf xg xh xi xj xk xl xm xn xo xp xq xr xt xu xv) (by kernel_rfl) (by kernel_rfl) (by kernel_rfl) (by kernel_rfl) (fun c x w => hQ c x _ _ w) (by kernel_rfl) (fun w hS => by unfold frp45 opp45_2_4; go_simp) (by kernel_rfl) hS ?_
 refine take_h (i := 5) (oi := opp45_2_5 ps p1 p2 p3 p4 p5) (fuel := 17) (v := (.pointer (some ⟨B,5,none⟩))) (frp45 v0 (.pointer (some ⟨B,0,none⟩)) v2 (.int .i64 c) v4 v5 v6 v7 v8 v9 (.pointer (some ⟨B,2,none⟩)) (.pointer (some ⟨B,6,none⟩)) (.int .i64 a.p.p4) xd (.pointer (some ⟨B,2,none⟩)) (.pointer (some ⟨B,5,none⟩)) xg xh xi xj xk xl xm xn xo xp xq xr xt xu xv) (by kernel_rfl) (by kernel_rfl) (by kernel_rfl) (by kernel_rfl) (fun c x w => hQ c x _ _ w) (by kernel_rfl) (fun w hS => by unfold frp45 opp45_2_5; go_simp) (by kernel_rfl) hS ?_
 refine take_h (i := 6) (oi := opp45_2_6 ps p1 p2 p3 p4 p5) (fuel := 16) (v := (.int .i64 a.p.p3)) (frp45 v0 (.pointer (some ⟨B,0,none⟩)) v2 (.int .i64 c) v4 v5 v6 v7 v8 v9 (.pointer (some ⟨B,2,none⟩)) (.pointer (some ⟨B,6,none⟩)) (.int .i64 a.p.p4) xd (.pointer (some ⟨B,2,none⟩)) (.pointer (some ⟨B,5,none⟩)) (.int .i64 a.p.p3) xh xi xj xk xl xm xn xo xp xq xr xt xu xv) (by kernel_rfl) (by kernel_rfl) (by kernel_rfl) (by kernel_rfl) (fun c x w => hQ c x _ _ w) (by kernel_rfl) (fun w hS => by have e := hS.c3; unfold frp45 opp45_2_6; go_simp) (by kernel_rfl) hS ?_
 refine take_h (i := 8) (oi := opp45_2_8 ps p1 p2 p3 p4 p5) (fuel := 15) (v := (.agg (paC a))) (frp45 v0 (.pointer (some ⟨B,0,none⟩)) v2 (.int .i64 c) v4 v5 v6 v7 v8 v9 (.pointer (some ⟨B,2,none⟩)) (.pointer (some ⟨B,6,none⟩)) (.int .i64 a.p.p4) xd (.pointer (some ⟨B,2,none⟩)) (.pointer (some ⟨B,5,none⟩)) (.int .i64 a.p.p3) xh (.agg (paC a)) xj xk xl xm xn xo xp xq xr xt xu xv) (by kernel_rfl) (by kernel_rfl) (by kernel_rfl) (by kernel_rfl) (fun c x w => hQ c x _ _ w) (by kernel_rfl) (fun w hS => load_pa hS.p rfl rfl) (by kernel_rfl) hS ?_
 refine take_h (i := 11) (oi := opp45_2_11 ps p1 p2 p3 p4 p5) (fuel := 14) (v := (.int .i64 c)) (frp45 v0 (.pointer (some ⟨B,0,none⟩)) v2 (.int .i64 c) v4 v5 v6 v7 v8 v9 (.pointer (some ⟨B,2,none⟩)) (.pointer (some ⟨B,6,none⟩)) (.int .i64 a.p.p4) xd (.pointer (some ⟨B,2,none⟩)) (.pointer (some ⟨B,5,none⟩)) (.int .i64 a.p.p3) xh (.agg (paC a)) xj xk (.int .i64 c) xm xn xo xp xq xr xt xu xv) (by kernel_rfl) (by kernel_rfl) (by kernel_rfl) (by kernel_rfl) (fun c x w => hQ c x _ _ w) (by kernel_rfl) (fun w _ => by kernel_rfl) (by kernel_rfl) hS ?_
 refine take_h (i := 12) (oi := opp45_2_12 ps p1 p2 p3 p4 p5) (fuel := 13) (v := (.pointer (some ⟨B,2,none⟩))) (frp45 v0 (.pointer (some ⟨B,0,none⟩)) v2 (.int .i64 c) v4 v5 v6 v7 v8 v9 (.pointer (some ⟨B,2,none⟩)) (.pointer (some ⟨B,6,none⟩)) (.int .i64 a.p.p4) xd (.pointer (some ⟨B,2,none⟩)) (.pointer (some ⟨B,5,none⟩)) (.int .i64 a.p.p3) xh (.agg (paC a)) xj xk (.int .i64 c) (.pointer (some ⟨B,2,none⟩)) xn xo xp xq xr xt xu xv) (by kernel_rfl) (by kernel_rfl) (by kernel_rfl) (by kernel_rfl) (fun c x w => hQ c x _ _ w) (by kernel_rfl) (fun w hS => by unfold frp45 opp45_2_12; go_simp) (by kernel_rfl) hS ?_
 refine take_h (i := 13) (oi := opp45_2_13 ps p1 p2 p3 p4 p5) (fuel := 12) (v := (.pointer (some ⟨B,16,none⟩))) (frp45 v0 (.pointer (some ⟨B,0,none⟩)) v2 (.int .i64 c) v4 v5 v6 v7 v8 v9 (.pointer (some ⟨B,2,none⟩)) (.pointer (some ⟨B,6,none⟩)) (.int .i64 a.p.p4) xd (.pointer (some ⟨B,2,none⟩)) (.pointer (some ⟨B,5,none⟩)) (.int .i64 a.p.p3) xh (.agg (paC a)) xj xk (.int .i64 c) (.pointer (some ⟨B,2,none⟩)) (.pointer (some ⟨B,16,none⟩)) xo xp xq xr xt xu xv) (by kernel_rfl) (by kernel_rfl) (by kernel_rfl) (by kernel_rfl) (fun c x w => hQ c x _ _ w) (by kernel_rfl) (fun w hS => by unfold frp45 opp45_2_13; go_simp) (by kernel_rfl) hS ?_
 refine take_h (i := 14) (oi := opp45_2_14 ps p1 p2 p3 p4 p5) (fuel := 11) (v := (.int .i64 a.p.p14)) (frp45 v0 (.pointer (some ⟨B,0,none⟩)) v2 (.int .i64 c) v4 v5 v6 v7 v8 v9 (.pointer (some ⟨B,2,none⟩)) (.pointer (some ⟨B,6,none⟩)) (.int .i64 a.p.p4) xd (.pointer (some ⟨B,2,none⟩)) (.pointer (some ⟨B,5,none⟩)) (.int .i64 a.p.p3) xh (.agg (paC a)) xj xk (.int .i64 c) (.pointer (some ⟨B,2,none⟩)) (.pointer (some ⟨B,16,none⟩)) (.int .i64 a.p.p14) xp xq xr xt xu xv) (by kernel_rfl) (by kernel_rfl) (by kernel_rfl) (by kernel_rfl) (fun c x w => hQ c x _ _ w) (by kernel_rfl) (fun w hS => by have e := hS.c14; unfold frp45 opp45_2_14; go_simp) (by kernel_rfl) hS ?_
 refine take_h (i := 16) (oi := opp45_2_16 ps p1 p2 p3 p4 p5) (fuel := 10) (v := (.pointer (some ⟨B,2,none⟩))) (frp45 v0 (.pointer (some ⟨B,0,none⟩)) v2 (.int .i64 c) v4 v5 v6 v7 v8 v9 (.pointer (some ⟨B,2,none⟩)) (.pointer (some ⟨B,6,none⟩)) (.int .i64 a.p.p4) xd (.pointer (some ⟨B,2,none⟩)) (.pointer (some ⟨B,5,none⟩)) (.int .i64 a.p.p3) xh (.agg (paC a)) xj xk (.int .i64 c) (.pointer (some ⟨B,2,none⟩)) (.pointer (some ⟨B,16,none⟩)) (.int .i64 a.p.p14) xp (.pointer (some ⟨B,2,none⟩)) xr xt xu xv) (by kernel_rfl) (by kernel_rfl) (by kernel_rfl) (by kernel_rfl) (fun c x w => hQ c x _ _ w) (by kernel_rfl) (fun w hS => by unfold frp45 opp45_2_16; go_simp) (by kernel_rfl) hS ?_
 refine take_h (i := 17) (oi := opp45_2_17 ps p1 p2 p3 p4 p5) (fuel := 9) (v := (.pointer (some ⟨B,7,none⟩))) (frp45 v0 (.pointer (some ⟨B,0,none⟩)) v2 (.int .i64 c) v4 v5 v6 v7 v8 v9 (.pointer (some ⟨B,2,none⟩)) (.pointer (some ⟨B,6,none⟩)) (.int .i64 a.p.p4) xd (.pointer (some ⟨B,2,none⟩)) (.pointer (some ⟨B,5,none⟩)) (.int .i64 a.p.p3) xh (.agg (paC a)) xj xk (.int .i64 c) (.pointer (some ⟨B,2,none⟩)) (.pointer (some ⟨B,16,none⟩)) (.int .i64 a.p.p14) xp (.pointer (some ⟨B,2,none⟩)) (.pointer (some ⟨B,7,none⟩)) xt xu xv) (by kernel_rfl) (by kernel_rfl) (by kernel_rfl) (by kernel_rfl) (fun c x w => hQ c x _ _ w) (by kernel_rfl) (fun w hS => by unfold frp45 opp45_2_17; go_simp) (by kernel_rfl) hS ?_
 refine take_h (i := 18) (oi := opp45_2_18 ps p1 p2 p3 p4 p5) (fuel := 8) (v := (.int .i64 a.p.p5)) (frp45 v0 (.pointer (some ⟨B,0,none⟩)) v2 (.int .i64 c) v4 v5 v6 v7 v8 v9 (.pointer (some ⟨B,2,none⟩)) (.pointer (some ⟨B,6,none⟩)) (.int .i64 a.p.p4) xd (.pointer (some ⟨B,2,none⟩)) (.pointer (some ⟨B,5,none⟩)) (.int .i64 a.p.p3) xh (.agg (paC a)) xj xk (.int .i64 c) (.pointer (some ⟨B,2,none⟩)) (.pointer (some ⟨B,16,none⟩)) (.int .i64 a.p.p14) xp (.pointer (some ⟨B,2,none⟩)) (.pointer (some ⟨B,7,none⟩)) (.int .i64 a.p.p5) xu xv) (by kernel_rfl) (by kernel_rfl) (by kernel_rfl) (by kernel_rfl) (fun c x w => hQ c x _ _ w) (by kernel_rfl) (fun w hS => by have e := hS.c5; unfold frp45 opp45_2_18; go_simp) (by kernel_rfl) hS ?_
 refine want_h (i := 3) (oi := opp45_2_3 ps p1 p2 p3 p4 p5) (fuel := 7) (by kernel_rfl) (by kernel_rfl) (by kernel_rfl) fun K hK => ?_
 unfold frp45 opp45_2_3
 go_simp
 refine (from90 a.p.p4 9223372036854775807 _).mono ?_
 rintro e w1 ⟨⟨u0,rfl,f0⟩,hb1⟩
 have hS1 : TkW B a w1 := ⟨hS.p.below hb1 hS.p.lt⟩
 have hz1 := hz0.trans (hb1.mono hz0.size)
 refine hK _ _ hS1 (cast_h (frp45 v0 (.pointer (some ⟨B,0,none⟩)) v2 (.int .i64 c) v4 v5 v6 v7 v8 v9 (.pointer (some ⟨B,2,none⟩)) (.pointer (some ⟨B,6,none⟩)) (.int .i64 a.p.p4) u0 (.pointer (some ⟨B,2,none⟩)) (.pointer (some ⟨B,5,none⟩)) (.int .i64 a.p.p3) xh (.agg (paC a)) xj xk (.int .i64 c) (.pointer (some ⟨B,2,none⟩)) (.pointer (some ⟨B,16,none⟩)) (.int .i64 a.p.p14) xp (.pointer (some ⟨B,2,none⟩)) (.pointer (some ⟨B,7,none⟩)) (.int .i64 a.p.p5) xu xv) (by kernel_rfl) ?_)
 clear hK K
 refine want_h (i := 7) (oi := opp45_2_7 ps p1 p2 p3 p4 p5) (fuel := 6) (by kernel_rfl) (by kernel_rfl) (by kernel_rfl) fun K hK => ?_
 unfold frp45 opp45_2_7
 go_simp
 refine (from90 a.p.p3 1 _).mono ?_
 rintro e w2 ⟨⟨u1,rfl,f1⟩,hb2⟩
 have hS2 : TkW B a w2 := ⟨hS1.p.below hb2 hS1.p.lt⟩
 have hz2 := hz1.trans (hb2.mono hz1.size)
 replace f0 := f0.below hb2 (Nat.le_refl _)
 refine hK _ _ hS2 (cast_h (frp45 v0 (.pointer (some ⟨B,0,none⟩)) v2 (.int .i64 c) v4 v5 v6 v7 v8 v9 (.pointer (some ⟨B,2,none⟩)) (.pointer (some ⟨B,6,none⟩)) (.int .i64 a.p.p4) u0 (.pointer (some ⟨B,2,none⟩)) (.pointer (some ⟨B,5,none⟩)) (.int .i64 a.p.p3) u1 (.agg (paC a)) xj xk (.int .i64 c) (.pointer (some ⟨B,2,none⟩)) (.pointer (some ⟨B,16,none⟩)) (.int .i64 a.p.p14) xp (.pointer (some ⟨B,2,none⟩)) (.pointer (some ⟨B,7,none⟩)) (.int .i64 a.p.p5) xu xv) (by kernel_rfl) ?_)
 clear hK K
 refine want_h (i := 9) (oi := opp45_2_9 ps p1 p2 p3 p4 p5) (fuel := 5) (by kernel_rfl) (by kernel_rfl) (by kernel_rfl) fun K hK => ?_
 unfold frp45 opp45_2_9
 go_simp
 refine (label91 a _).mono ?_
 rintro e w3 ⟨rfl,hb3⟩
 have hS3 : TkW B a w3 := ⟨hS2.p.below hb3 hS2.p.lt⟩
 have hz3 := hz2.trans (hb3.mono hz2.size)
 replace f0 := f0.below hb3 (Nat.le_refl _)
 replace f1 := f1.below hb3 (Nat.le_refl _)
 refine hK _ _ hS3 (cast_h (frp45 v0 (.pointer (some ⟨B,0,none⟩)) v2 (.int .i64 c) v4 v5 v6 v7 v8 v9 (.pointer (some ⟨B,2,none⟩)) (.pointer (some ⟨B,6,none⟩)) (.int .i64 a.p.p4) u0 (.pointer (some ⟨B,2,none⟩)) (.pointer (some ⟨B,5,none⟩)) (.int .i64 a.p.p3) u1 (.agg (paC a)) (.int .i64 (lbI a)) xk (.int .i64 c) (.pointer (some ⟨B,2,none⟩)) (.pointer (some ⟨B,16,none⟩)) (.int .i64 a.p.p14) xp (.pointer (some ⟨B,2,none⟩)) (.pointer (some ⟨B,7,none⟩)) (.int .i64 a.p.p5) xu xv) (by kernel_rfl) ?_)
 clear hK K
 refine want_h (i := 10) (oi := opp45_2_10 ps p1 p2 p3 p4 p5) (fuel := 4) (by kernel_rfl) (by kernel_rfl) (by kernel_rfl) fun K hK => ?_
 unfold frp45 opp45_2_10
 go_simp
 refine (from90 (lbI a) 1 _).mono ?_
 rintro e w4 ⟨⟨u2,rfl,f2⟩,hb4⟩
 have hS4 : TkW B a w4 := ⟨hS3.p.below hb4 hS3.p.lt⟩
 have hz4 := hz3.trans (hb4.mono hz3.size)
 replace f0 := f0.below hb4 (Nat.le_refl _)
 replace f1 := f1.below hb4 (Nat.le_refl _)
 refine hK _ _ hS4 (cast_h (frp45 v0 (.pointer (some ⟨B,0,none⟩)) v2 (.int .i64 c) v4 v5 v6 v7 v8 v9 (.pointer (some ⟨B,2,none⟩)) (.pointer (some ⟨B,6,none⟩)) (.int .i64 a.p.p4) u0 (.pointer (some ⟨B,2,none⟩)) (.pointer (some ⟨B,5,none⟩)) (.int .i64 a.p.p3) u1 (.agg (paC a)) (.int .i64 (lbI a)) u2 (.int .i64 c) (.pointer (some ⟨B,2,none⟩)) (.pointer (some ⟨B,16,none⟩)) (.int .i64 a.p.p14) xp (.pointer (some ⟨B,2,none⟩)) (.pointer (some ⟨B,7,none⟩)) (.int .i64 a.p.p5) xu xv) (by kernel_rfl) ?_)
 clear hK K
 refine want_h (i := 15) (oi := opp45_2_15 ps p1 p2 p3 p4 p5) (fuel := 3) (by kernel_rfl) (by kernel_rfl) (by kernel_rfl) fun K hK => ?_
 unfold frp45 opp45_2_15
 go_simp
 refine (from90 c a.p.p14 _).mono ?_
 rintro e w5 ⟨⟨u3,rfl,f3⟩,hb5⟩
 have hS5 : TkW B a w5 := ⟨hS4.p.below hb5 hS4.p.lt⟩
 have hz5 := hz4.trans (hb5.mono hz4.size)
 replace f0 := f0.below hb5 (Nat.le_refl _)
 replace f1 := f1.below hb5 (Nat.le_refl _)
 replace f2 := f2.below hb5 (Nat.le_refl _)
 refine hK _ _ hS5 (cast_h (frp45 v0 (.pointer (some ⟨B,0,none⟩)) v2 (.int .i64 c) v4 v5 v6 v7 v8 v9 (.pointer (some ⟨B,2,none⟩)) (.pointer (some ⟨B,6,none⟩)) (.int .i64 a.p.p4) u0 (.pointer (some ⟨B,2,none⟩)) (.pointer (some ⟨B,5,none⟩)) (.int .i64 a.p.p3) u1 (.agg (paC a)) (.int .i64 (lbI a)) u2 (.int .i64 c) (.pointer (some ⟨B,2,none⟩)) (.pointer (some ⟨B,16,none⟩)) (.int .i64 a.p.p14) u3 (.pointer (some ⟨B,2,none⟩)) (.pointer (some ⟨B,7,none⟩)) (.int .i64 a.p.p5) xu xv) (by kernel_rfl) ?_)
 clear hK K
 refine want_h (i := 19) (oi := opp45_2_19 ps p1 p2 p3 p4 p5) (fuel := 2) (by kernel_rfl) (by kernel_rfl) (by kernel_rfl) fun K hK => ?_
 unfold frp45 opp45_2_19
 go_simp
 refine (from92 a.p.p5 _).mono ?_
 rintro e w6 ⟨⟨u4,rfl,f4⟩,hb6⟩
 have hS6 : TkW B a w6 := ⟨hS5.p.below hb6 hS5.p.lt⟩
 have hz6 := hz5.trans (hb6.mono hz5.size)
 replace f0 := f0.below hb6 (Nat.le_refl _)
 replace f1 := f1.below hb6 (Nat.le_refl _)
 replace f2 := f2.below hb6 (Nat.le_refl _)
 replace f3 := f3.below hb6 (Nat.le_refl _)
 refine hK _ _ hS6 (cast_h (frp45 v0 (.pointer (some ⟨B,0,none⟩)) v2 (.int .i64 c) v4 v5 v6 v7 v8 v9 (.pointer (some ⟨B,2,none⟩)) (.pointer (some ⟨B,6,none⟩)) (.int .i64 a.p.p4) u0 (.pointer (some ⟨B,2,none⟩)) (.pointer (some ⟨B,5,none⟩)) (.int .i64 a.p.p3) u1 (.agg (paC a)) (.int .i64 (lbI a)) u2 (.int .i64 c) (.pointer (some ⟨B,2,none⟩)) (.pointer (some ⟨B,16,none⟩)) (.int .i64 a.p.p14) u3 (.pointer (some ⟨B,2,none⟩)) (.pointer (some ⟨B,7,none⟩)) (.int .i64 a.p.p5) u4 xv) (by kernel_rfl) ?_)
 clear hK K
 refine want_h (i := 20) (oi := opp45_2_20 ps p1 p2 p3 p4 p5) (fuel := 1) (by kernel_rfl) (by kernel_rfl) (by kernel_rfl) fun K hK => ?_
 obtain ⟨a0,b0,q0,k0,k1⟩ := f0.ex
 obtain ⟨a1,b1,q1,k2,k3⟩ := f1.ex
 obtain ⟨a2,b2,q2,k4,k5⟩ := f2.ex
 obtain ⟨a3,b3,q3,k6,k7⟩ := f3.ex
 obtain ⟨b4,q4,k8⟩ := f4.ex
 refine wp_build5 (.tmp 13) (.tmp 17) (.tmp 20) (.tmp 25) (.tmp 29) (by unfold opp45_2_20; rfl) a0 b0 a1 b1 a2 b2 a3 b3 b4 q0 q1 q2 q3 q4 ?_
 have hb7 := (Below.refl w6.heap.size w6).alloc (Nat.le_refl _) (.cells #[clL a0 b0,clL a1 b1,clL a2 b2,clL a3 b3,clR b4] 126)
 have hS7 : TkW B a (w6.alloc (.cells #[clL a0 b0,clL a1 b1,clL a2 b2,clL a3 b3,clR b4] 126)) := ⟨hS6.p.below hb7 hS6.p.lt⟩
 have hT : TkAt (w6.alloc (.cells #[clL a0 b0,clL a1 b1,clL a2 b2,clL a3 b3,clR b4] 126)) (.slice (some ⟨w6.heap.size,0,none⟩) 5 5) ⟨a.p.p4,a.p.p3,lbI a,c,a.p.p5,a.p.p14,9223372036854775807⟩ := ⟨_,_,_,_,_,_,rfl,World.alloc_heap_new _ _,⟨_,_,rfl,k0.below hb7 (Nat.le_refl _),k1.below hb7 (Nat.le_refl _)⟩,⟨_,_,rfl,k2.below hb7 (Nat.le_refl _),k3.below hb7 (Nat.le_refl _)⟩,⟨_,_,rfl,k4.below hb7 (Nat.le_refl _),k5.below hb7 (Nat.le_refl _)⟩,⟨_,_,rfl,k6.below hb7 (Nat.le_refl _),k7.below hb7 (Nat.le_refl _)⟩,⟨_,rfl,k8.below hb7 (Nat.le_refl _)⟩⟩
 have hz7 := hz6.trans (hb7.mono hz6.size)
 refine hK _ _ hS7 (cast_h (frp45 v0 (.pointer (some ⟨B,0,none⟩)) v2 (.int .i64 c) v4 v5 v6 v7 v8 v9 (.pointer (some ⟨B,2,none⟩)) (.pointer (some ⟨B,6,none⟩)) (.int .i64 a.p.p4) u0 (.pointer (some ⟨B,2,none⟩)) (.pointer (some ⟨B,5,none⟩)) (.int .i64 a.p.p3) u1 (.agg (paC a)) (.int .i64 (lbI a)) u2 (.int .i64 c) (.pointer (some ⟨B,2,none⟩)) (.pointer (some ⟨B,16,none⟩)) (.int .i64 a.p.p14) u3 (.pointer (some ⟨B,2,none⟩)) (.pointer (some ⟨B,7,none⟩)) (.int .i64 a.p.p5) u4 (.slice (some ⟨w6.heap.size,0,none⟩) 5 5)) (by kernel_rfl) ?_)
 clear hK K
 refine take_h (i := 21) (oi := opp45_2_21 ps p1 p2 p3 p4 p5) (fuel := 0) (v := (.slice (some ⟨w6.heap.size,0,none⟩) 5 5)) (frp45 v0 (.pointer (some ⟨B,0,none⟩)) (.slice (some ⟨w6.heap.size,0,none⟩) 5 5) (.int .i64 c) v4 v5 v6 v7 v8 v9 (.pointer (some ⟨B,2,none⟩)) (.pointer (some ⟨B,6,none⟩)) (.int .i64 a.p.p4) u0 (.pointer (some ⟨B,2,none⟩)) (.pointer (some ⟨B,5,none⟩)) (.int .i64 a.p.p3) u1 (.agg (paC a)) (.int .i64 (lbI a)) u2 (.int .i64 c) (.pointer (some ⟨B,2,none⟩)) (.pointer (some ⟨B,16,none⟩)) (.int .i64 a.p.p14) u3 (.pointer (some ⟨B,2,none⟩)) (.pointer (some ⟨B,7,none⟩)) (.int .i64 a.p.p5) u4 (.slice (some ⟨w6.heap.size,0,none⟩) 5 5)) (by kernel_rfl) (by kernel_rfl) (by kernel_rfl) (by kernel_rfl) (fun c x w => hQ c x _ _ w) (by kernel_rfl) (fun w _ => by kernel_rfl) (by kernel_rfl) hS7 ?_
 exact wpAnyH_done (by kernel_rfl) (hq _ _ _ _ _ _ _ hT hz7) _
theorem takers_any (a : Pa) (w : World) (hA : PaAt w a) : Calls Tryz.prog 51 #[paV a] w fun e w' => (∃ v,e = .returned v ∧ TkAt w' v (tkP a)) ∧ Below w.heap.size w w' := by
 have hB := (Below.refl w.heap.size w).alloc (Nat.le_refl _) (Obj.cells (paC a) 36)
 have hP := PB.new w a
 have hd := drop_any a _ (hA.below hB (Nat.le_refl _))
 unfold tkP
 generalize drV a = c at *
 unfold paV at hd ⊢
 have hBh : Hid (Below w.heap.size w (w.alloc (.cells (paC a) 36))) := hB
 clear hB hA
 generalize hw1 : w.alloc (.cells (paC a) 36) = w1 at *
 go_enter Tryz.func51,Tryz.ntmps51
 go_wp2_with (first | (refine wpList_load_row rfl 36 _ rfl w.heap.size rfl 36 _ (0,0) _ hP.row Tryz.underlying36 rfl (info34 a) ?_) | (go_at_call 79; refine hd.mono ?_; rintro e w2 ⟨rfl,hb2⟩))
 refine tk_r2 _ (fun _ _ _ _ _ h => h) _ _ _ _ _ _ _ w w.heap.size a c w2 ⟨⟨(hP.below hb2 hP.lt).row⟩⟩ (hBh.out.trans (hb2.mono hBh.out.size)).drew ?_
 intro u0 u1 u2 u3 u4 u w3 hT hz
 unfold frp45
 go_wp2_with fail
 go_ret
 exact ⟨⟨_,rfl,hT⟩,hz⟩
end Go.Proofs.YtlgcnbomfhmjiaaGreatDoor

namespace Go.Proofs.YtlgcnbomfhmjiaaGreatDoor
open Go.RowKit Go.Shelf
set_option maxRecDepth 100000
set_option maxHeartbeats 2000000

theorem results_tct {P : Program} {fn : Func} {u p v : Tmp} {ty : TypeId} (h : fn.results = #[.tmp u,.cell p ty,.tmp v]) (tmps : Array Value) (w : World) (g : Nat) (t : TypeId) (cs : Array Value) (fr : Nat × Nat) (d : TypeDesc)
  (hp : tmps.getD p undef = .pointer (some ⟨g,0,none⟩)) (hg : w.heap[g]? = some (.cells cs t fr))
  (hu : P.underlying ty = some d) (hd : (match d with | .struct _ | .array _ _ => true | _ => false) = true) (hi : (P.info? ty).map (·.size) = some cs.size) :
  (results fn tmps).run P w = .ok (.tuple #[tmps.getD u undef,.agg cs,tmps.getD v undef]) w := by
 have hp' : tmps[p]?.getD undef = .pointer (some ⟨g,0,none⟩) := by simpa using hp
 simp [results,h,hp',asAddr,run_loadVar_row w g t ty cs fr d hg hu hd hi,Result.andThen]
theorem check_any (a : Pa) (w : World) (hA : PaAt w a) : Calls Tryz.prog 77 #[paV a] w fun e w' => e = .returned (.int .i64 (chkI a)) ∧ Below w.heap.size w w' := by
 have hB := (Below.refl w.heap.size w).alloc (Nat.le_refl _) (Obj.cells (paC a) 36)
 have hP := PB.new w a
 have hA1 := hA.below hB (Nat.le_refl _)
 have hs := msplit_any a _ hA1
 unfold paV at hs ⊢
 generalize hw1 : w.alloc (.cells (paC a) 36) = w1 at *
 go_enter Tryz.func77,Tryz.ntmps77
 go_wp2_with (refine wpList_load_row rfl 36 _ rfl w.heap.size rfl 36 _ (0,0) _ hP.row Tryz.underlying36 rfl (info34 a) ?_)
 refine hs.mono ?_
 rintro e w2 ⟨⟨v,rfl,_⟩,hb2⟩
 have hB2 := hB.trans (hb2.mono hB.size)
 go_wp2_with fail
 go_ret
 exact ⟨rfl,hB2⟩
def paE (a : Pa) (ss : List Sl) (r : Sl) : Int := if chkI a ≠ 0 then chkI a else ckS ss r
theorem paE_ok {a : Pa} {ss : List Sl} {r : Sl} (h : paE a ss r = 0) : chkI a = 0 ∧ ckS ss r = 0 := by
 unfold paE at h
 split at h
 ·contradiction
 ·rename_i h1
  exact ⟨Decidable.not_not.1 h1,h⟩
theorem refuse44 (a : Pa) (v : Value) (ss : List Sl) (r : Sl) (hl : ss.length ≤ 9223372036854775807) (w : World) (hA : PaAt w a) (hV : SlsAt w v ss) :
  Calls Tryz.prog 50 #[paV a,v,.agg (slL r).toArray] w fun e w' => e = .returned (.int .i64 (paE a ss r)) ∧ Below w.heap.size w w' := by
 have hB := below2 w (Obj.cells (paC a) 36) (.cells #[.int .i64 r.x,.int .i64 r.w] 53)
 have hP : PB ((w.alloc (.cells (paC a) 36)).alloc (.cells #[.int .i64 r.x,.int .i64 r.w] 53)) w.heap.size a := ⟨(Below.heap_alloc _ _ _ (by simp)).trans (World.alloc_heap_new w _)⟩
 have hx : ((w.alloc (.cells (paC a) 36)).alloc (.cells #[.int .i64 r.x,.int .i64 r.w] 53)).heap[w.heap.size + 1]? = some (.cells #[.int .i64 r.x,.int .i64 r.w] 53 (0,0)) := alloc2_heap w _ _
 have hc := check_any a _ (hA.below hB (Nat.le_refl _))
 have hV2 := hV.below hB (Nat.le_refl _)
 obtain ⟨va,vc,rfl,-⟩ := hV.ex
 have hBh : Hid (Below w.heap.size w ((w.alloc (.cells (paC a) 36)).alloc (.cells #[.int .i64 r.x,.int .i64 r.w] 53))) := hB
 have hV2h : Hid (SlsAt ((w.alloc (.cells (paC a) 36)).alloc (.cells #[.int .i64 r.x,.int .i64 r.w] 53)) (.slice va ss.length vc) ss) := hV2
 clear hV hV2 hA hB
 unfold paV at hc ⊢
 show Calls Tryz.prog 50 #[.agg (paC a),.slice va ss.length vc,.agg #[.int .i64 r.x,.int .i64 r.w]] w _
 generalize hwz : (w.alloc (.cells (paC a) 36)).alloc (.cells #[.int .i64 r.x,.int .i64 r.w] 53) = wz at *
 by_cases hk : chkI a = 0
 ·have e : paE a ss r = ckS ss r := by unfold paE; rw [if_neg (by rw [hk]; exact fun h => h rfl)]
  rw [hk] at hc
  rw [e]
  have hfc : Hid (∀ W,Below wz.heap.size wz W → Calls Tryz.prog 78 #[.slice va ss.length vc,.agg #[.int .i64 r.x,.int .i64 r.w]] W fun e w' => e = .returned (.int .i64 (ckS ss r)) ∧ Below W.heap.size W w') := fun W hW => fcheck_any _ ss r hl W (hV2h.out.below hW (Nat.le_refl _))
  clear e hk hV2h
  generalize ckS ss r = k at *
  go_enter Tryz.func50,Tryz.ntmps50
  go_wp2_with (first | (refine wpList_load_row rfl 36 _ rfl w.heap.size rfl 36 _ (0,0) _ hP.row Tryz.underlying36 rfl (info34 a) ?_) | (go_at_call 77; refine hc.mono ?_; rintro e w2 ⟨rfl,hb2⟩; have hx2 : w2.heap[w.heap.size + 1]? = some (.cells #[.int .i64 r.x,.int .i64 r.w] 53 (0,0)) := (hb2.block _ (Array.getElem?_eq_some_iff.1 hx).1).trans hx; have hb2h : Hid (Below wz.heap.size wz w2) := hb2; clear hb2) | (refine wpList_load_row rfl 53 _ rfl (w.heap.size + 1) rfl 53 _ (0,0) _ hx2 Tryz.underlying53 rfl (info25 _ _) ?_) | (go_at_call 78; refine (hfc.out w2 hb2h.out).mono ?_; rintro e w3 ⟨rfl,hb3⟩))
  go_ret
  exact ⟨rfl,(hBh.out.trans (hb2h.out.mono hBh.out.size)).trans (hb3.mono (Nat.le_trans hBh.out.size hb2h.out.size))⟩
 ·have e : paE a ss r = chkI a := by unfold paE; rw [if_pos hk]
  rw [e]
  have hk' : (chkI a == 0) = false := by simpa using hk
  clear e
  generalize chkI a = k at *
  go_enter Tryz.func50,Tryz.ntmps50
  go_wp2_with (first | (refine wpList_load_row rfl 36 _ rfl w.heap.size rfl 36 _ (0,0) _ hP.row Tryz.underlying36 rfl (info34 a) ?_) | (go_at_call 77; refine hc.mono ?_; rintro e w2 ⟨rfl,hb2⟩))
  go_ret
  exact ⟨rfl,hBh.out.trans (hb2.mono hBh.out.size)⟩
end Go.Proofs.YtlgcnbomfhmjiaaGreatDoor
