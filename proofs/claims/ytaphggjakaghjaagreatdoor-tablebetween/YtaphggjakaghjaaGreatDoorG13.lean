/-
  What is proved here: what labelRoom and takers of para answer.
  What is proved here: what metric.Check and refuse of para answer.
  What is proved here: records that fill a block (no function of the program is named).
  What is proved here: one record more behind a row of one's own; a field of a record in a block is written.
-/
import Derived.Test.YtaphggjakaghjaaGreatDoorG1
import Derived.Test.YtaphggjakaghjaaGreatDoorG9
import Derived.Test.YtaphggjakaghjaaGreatDoorG12
import Derived.Test.YtaphggjakaghjaaGreatDoorG5
import Derived.Test.YtaphggjakaghjaaGreatDoorG2
import Derived.Deep.MidRow
import Derived.OrdersHeld
import Derived.Test.YtaphggjakaghjaaGreatDoorRows
import Derived.BigQuiet
import Derived.Handy
namespace Go.Proofs.YtaphggjakaghjaaGreatDoor
open Go.RowKit Go.Shelf
set_option maxRecDepth 100000
set_option maxHeartbeats 2000000

theorem wVal_big (t : ByteArray) (s : Int) : 0 ≤ wVal t s ∧ wVal t s ≤ 262144 := by
 rcases wErr_cases t s with ⟨_,e,_⟩ | ⟨_,e,_⟩ | ⟨_,e,h1,h2,h3⟩
 ·rw [e]; omega
 ·rw [e]; omega
 ·rw [e]
  have := tw_rng t (s := s) (by omega) h2 t.size
  unfold widthI
  omega
def lbI (a : Pa) : Int := if a.lb.size = 0 then 0 else wVal a.lb a.p.p0 + 4
def tkP (a : Pa) : Tk := ⟨a.p.p4,a.p.p3,lbI a,drV a,a.p.p5,a.p.p14,9223372036854775807⟩
theorem tkP_ok {a : Pa} (h : chkI a = 0) : (tkP a).ok := by
 have hG := good_of h
 have h3 := List.all_eq_true.1 hG.pr (a.p.p3,0,255) (by simp [prB])
 have h4 := List.all_eq_true.1 hG.pr (a.p.p4,0,255) (by simp [prB])
 have h5 := List.all_eq_true.1 hG.pr (a.p.p5,0,255) (by simp [prB])
 simp [bdB] at h3 h4 h5
 have hw := wVal_big a.lb a.p.p0
 have hl : 0 ≤ lbI a ∧ lbI a ≤ 1000000 := by unfold lbI; split <;> omega
 have hd : 0 ≤ drV a ∧ drV a ≤ 1000000 := by
  have := cwI_rng a
  unfold drV; split <;> omega
 exact ⟨⟨by show 0 ≤ a.p.p4; omega,by show a.p.p4 ≤ _; omega⟩,⟨by show 0 ≤ a.p.p3; omega,by show a.p.p3 ≤ _; omega⟩,hl,hd,⟨by show 0 ≤ a.p.p5; omega,by show a.p.p5 ≤ _; omega⟩⟩
theorem lempty (s : ByteArray) : s.toList.isEmpty = decide (s.size = 0) := by
 obtain ⟨⟨l⟩⟩ := s
 rw [ByteArray.toList_eq]
 cases l <;> simp [ByteArray.size]
theorem from90 (r m : Int) (w : World) : Calls Tryz.prog 142 #[.int .i64 r,.int .i64 m] w fun e w' => (∃ v,e = .returned v ∧ ClL w' v r m) ∧ Below w.heap.size w w' := by
 go_enter Tryz.func142,Tryz.ntmps142
 go_wp2_with fail
 go_ret
 exact ⟨⟨_,rfl,⟨_,_,rfl,alloc2_heap w _ _,(Below.heap_alloc _ _ _ (by simp)).trans (World.alloc_heap_new w _)⟩⟩,below2 w _ _⟩
theorem from92 (r : Int) (w : World) : Calls Tryz.prog 144 #[.int .i64 r] w fun e w' => (∃ v,e = .returned v ∧ ClR w' v r) ∧ Below w.heap.size w w' := by
 go_enter Tryz.func144,Tryz.ntmps144
 go_wp2_with fail
 go_ret
 exact ⟨⟨_,rfl,⟨_,rfl,World.alloc_heap_new w _⟩⟩,(Below.refl w.heap.size w).alloc (Nat.le_refl _) _⟩
theorem label91 (a : Pa) (w : World) : Calls Tryz.prog 143 #[paV a] w fun e w' => e = .returned (.int .i64 (lbI a)) ∧ Below w.heap.size w w' := by
 have hB := (Below.refl w.heap.size w).alloc (Nat.le_refl _) (Obj.cells (paC a) 95)
 have hP := PB.new w a
 have c19 := hP.c19
 have c2 := hP.c2
 have hw := Width_any a.lb a.p.p0 (w.alloc (.cells (paC a) 95))
 have hr : Hid (a.lb.size ≠ 0 → -1000000000 ≤ wVal a.lb a.p.p0 ∧ wVal a.lb a.p.p0 ≤ 1000000000) := fun _ => ⟨by have := (wVal_big a.lb a.p.p0).1; omega,by have := (wVal_big a.lb a.p.p0).2; omega⟩
 clear hP
 unfold paV lbI
 generalize hw1 : w.alloc (.cells (paC a) 95) = w1 at *
 by_cases hz : a.lb.size = 0
 ·rw [if_pos hz]
  have e : a.lb.toList.isEmpty = true := by rw [lempty]; exact decide_eq_true hz
  clear hw hr
  go_enter Tryz.func143,Tryz.ntmps143
  go_wp2_with fail
  go_ret
  exact ⟨rfl,hB⟩
 ·rw [if_neg hz]
  obtain ⟨r1,r2⟩ := hr.out hz
  have e : a.lb.toList.isEmpty = false := by rw [lempty]; exact decide_eq_false hz
  clear hr
  generalize wVal a.lb a.p.p0 = x at *
  go_enter Tryz.func143,Tryz.ntmps143
  go_wp2_with (go_at_call 184; refine hw.mono ?_; rintro e w2 ⟨rfl,rfl⟩)
  go_ret
  exact ⟨rfl,hB⟩
structure TkW (B : Nat) (a : Pa) (W : World) : Prop where
 p : PB W B a
theorem TkW.c4 {B : Nat} {a : Pa} {W : World} (h : TkW B a W) : W.cell? ⟨B,6,none⟩ = some (.int .i64 a.p.p4) := h.p.cell rfl
theorem TkW.c3 {B : Nat} {a : Pa} {W : World} (h : TkW B a W) : W.cell? ⟨B,5,none⟩ = some (.int .i64 a.p.p3) := h.p.cell rfl
theorem TkW.c14 {B : Nat} {a : Pa} {W : World} (h : TkW B a W) : W.cell? ⟨B,16,none⟩ = some (.int .i64 a.p.p14) := h.p.cell rfl
theorem TkW.c5 {B : Nat} {a : Pa} {W : World} (h : TkW B a W) : W.cell? ⟨B,7,none⟩ = some (.int .i64 a.p.p5) := h.p.cell rfl
theorem run_build5 (W : World) (a0 b0 a1 b1 a2 b2 a3 b3 b4 : Nat) : (Instr.buildSlice 172 5 #[(0,clL a0 b0),(1,clL a1 b1),(2,clL a2 b2),(3,clL a3 b3),(4,clR b4)]).run Tryz.prog W = .ok (.slice (some ⟨W.heap.size,0,none⟩) 5 5) (W.alloc (.cells #[clL a0 b0,clL a1 b1,clL a2 b2,clL a3 b3,clR b4] 221)) := by
 kernel_rfl
theorem wp_build5 {oi : Oper} {a : Act} {w : World} {K : Act → World → Prop} {Q : Exit → Act → World → Prop} (y0 y1 y2 y3 y4 : Operand) (ho : oi.op = .buildSlice 172 5 #[(0,y0),(1,y1),(2,y2),(3,y3),(4,y4)]) (a0 b0 a1 b1 a2 b2 a3 b3 b4 : Nat)
  (e0 : a.eval y0 = clL a0 b0) (e1 : a.eval y1 = clL a1 b1) (e2 : a.eval y2 = clL a2 b2) (e3 : a.eval y3 = clL a3 b3) (e4 : a.eval y4 = clR b4)
  (h : K (a.put oi.dst (.slice (some ⟨w.heap.size,0,none⟩) 5 5)) (w.alloc (.cells #[clL a0 b0,clL a1 b1,clL a2 b2,clL a3 b3,clR b4] 221))) : oi.wp Tryz.prog a w K Q := by
 have hr := run_build5 w a0 b0 a1 b1 a2 b2 a3 b3 b4
 unfold Oper.wp execOp
 simp only [ho,List.map_toArray,List.map_cons,List.map_nil,e0,e1,e2,e3,e4,Sem.run_bind,Sem.run_pure,Result.andThen_ok,hr]
 exact h
def frp45 (v0 v1 v2 v3 v4 v5 v6 v7 v8 v9 xa xb xc xd xe xf xg xh xi xj xk xl xm xn xo xp xq xr xt xu xv : Value) : Act := { tmps := #[v0,v1,v2,v3,v4,v5,v6,v7,v8,v9,xa,xb,xc,xd,xe,xf,xg,xh,xi,xj,xk,xl,xm,xn,xo,xp,xq,xr,xt,xu,xv],defers := [] }
def opp45_2_0 (ps _p1 _p2 _p3 _p4 _p5 : String) : Oper := ⟨some 10,.fieldAddr 95 (.tmp 1) 2,0,ps,#[],none⟩
def opp45_2_1 (ps _p1 _p2 _p3 _p4 _p5 : String) : Oper := ⟨some 11,.fieldAddr 93 (.tmp 10) 4,0,ps,#[⟨0,.data⟩],none⟩
def opp45_2_2 (ps _p1 _p2 _p3 _p4 _p5 : String) : Oper := ⟨some 12,.load 3 (.tmp 11),3,ps,#[⟨1,.data⟩],none⟩
def opp45_2_3 (_ps p1 _p2 _p3 _p4 _p5 : String) : Oper := ⟨some 13,.call ⟨.value (.func 142),#[.tmp 12,.const (.int .i64 9223372036854775807)],#[3,3]⟩,221,p1,#[⟨2,.data⟩],none⟩
def opp45_2_4 (ps _p1 _p2 _p3 _p4 _p5 : String) : Oper := ⟨some 14,.fieldAddr 95 (.tmp 1) 2,0,ps,#[],none⟩
def opp45_2_5 (ps _p1 _p2 _p3 _p4 _p5 : String) : Oper := ⟨some 15,.fieldAddr 93 (.tmp 14) 3,0,ps,#[⟨4,.data⟩],none⟩
def opp45_2_6 (ps _p1 _p2 _p3 _p4 _p5 : String) : Oper := ⟨some 16,.load 3 (.tmp 15),3,ps,#[⟨5,.data⟩],none⟩
def opp45_2_7 (_ps _p1 p2 _p3 _p4 _p5 : String) : Oper := ⟨some 17,.call ⟨.value (.func 142),#[.tmp 16,.const (.int .i64 1)],#[3,3]⟩,221,p2,#[⟨6,.data⟩,⟨3,.chain⟩],none⟩
def opp45_2_8 (ps _p1 _p2 _p3 _p4 _p5 : String) : Oper := ⟨some 18,.load 95 (.tmp 1),95,ps,#[],none⟩
def opp45_2_9 (_ps _p1 _p2 p3 _p4 _p5 : String) : Oper := ⟨some 19,.call ⟨.value (.func 143),#[.tmp 18],#[95]⟩,3,p3,#[⟨8,.data⟩,⟨7,.chain⟩],none⟩
def opp45_2_10 (_ps _p1 _p2 p3 _p4 _p5 : String) : Oper := ⟨some 20,.call ⟨.value (.func 142),#[.tmp 19,.const (.int .i64 1)],#[3,3]⟩,221,p3,#[⟨9,.data⟩,⟨9,.chain⟩],none⟩
def opp45_2_11 (ps _p1 _p2 _p3 _p4 _p5 : String) : Oper := ⟨some 21,.move (.tmp 3),3,ps,#[],none⟩
def opp45_2_12 (ps _p1 _p2 _p3 _p4 _p5 : String) : Oper := ⟨some 22,.fieldAddr 95 (.tmp 1) 2,0,ps,#[],none⟩
def opp45_2_13 (ps _p1 _p2 _p3 _p4 _p5 : String) : Oper := ⟨some 23,.fieldAddr 93 (.tmp 22) 14,0,ps,#[⟨12,.data⟩],none⟩
def opp45_2_14 (ps _p1 _p2 _p3 _p4 _p5 : String) : Oper := ⟨some 24,.load 3 (.tmp 23),3,ps,#[⟨13,.data⟩],none⟩
def opp45_2_15 (_ps _p1 _p2 _p3 p4 _p5 : String) : Oper := ⟨some 25,.call ⟨.value (.func 142),#[.tmp 21,.tmp 24],#[3,3]⟩,221,p4,#[⟨11,.data⟩,⟨14,.data⟩,⟨10,.chain⟩],none⟩
def opp45_2_16 (ps _p1 _p2 _p3 _p4 _p5 : String) : Oper := ⟨some 26,.fieldAddr 95 (.tmp 1) 2,0,ps,#[],none⟩
def opp45_2_17 (ps _p1 _p2 _p3 _p4 _p5 : String) : Oper := ⟨some 27,.fieldAddr 93 (.tmp 26) 5,0,ps,#[⟨16,.data⟩],none⟩
def opp45_2_18 (ps _p1 _p2 _p3 _p4 _p5 : String) : Oper := ⟨some 28,.load 3 (.tmp 27),3,ps,#[⟨17,.data⟩],none⟩
def opp45_2_19 (_ps _p1 _p2 _p3 _p4 p5 : String) : Oper := ⟨some 29,.call ⟨.value (.func 144),#[.tmp 28],#[3]⟩,221,p5,#[⟨18,.data⟩,⟨15,.chain⟩],none⟩
def opp45_2_20 (ps _p1 _p2 _p3 _p4 _p5 : String) : Oper := ⟨some 30,.buildSlice 172 5 #[(0,.tmp 13),(1,.tmp 17),(2,.tmp 20),(3,.tmp 25),(4,.tmp 29)],172,ps,#[⟨3,.data⟩,⟨7,.data⟩,⟨10,.data⟩,⟨15,.data⟩,⟨19,.data⟩],none⟩
def opp45_2_21 (ps _p1 _p2 _p3 _p4 _p5 : String) : Oper := ⟨some 2,.assign (.tmp 30),172,ps,#[⟨20,.data⟩,⟨19,.chain⟩,⟨0,.phase⟩,⟨1,.phase⟩,⟨2,.phase⟩,⟨3,.phase⟩,⟨4,.phase⟩,⟨5,.phase⟩,⟨6,.phase⟩,⟨7,.phase⟩,⟨8,.phase⟩,⟨9,.phase⟩,⟨10,.phase⟩,⟨11,.phase⟩,⟨12,.phase⟩,⟨13,.phase⟩,⟨14,.phase⟩,⟨15,.phase⟩,⟨16,.phase⟩,⟨17,.phase⟩,⟨18,.phase⟩,⟨19,.phase⟩,⟨20,.phase⟩],none⟩
def opp45_2 (ps p1 p2 p3 p4 p5 : String) : Array Oper := #[opp45_2_0 ps p1 p2 p3 p4 p5,opp45_2_1 ps p1 p2 p3 p4 p5,opp45_2_2 ps p1 p2 p3 p4 p5,opp45_2_3 ps p1 p2 p3 p4 p5,opp45_2_4 ps p1 p2 p3 p4 p5,opp45_2_5 ps p1 p2 p3 p4 p5,opp45_2_6 ps p1 p2 p3 p4 p5,opp45_2_7 ps p1 p2 p3 p4 p5,opp45_2_8 ps p1 p2 p3 p4 p5,opp45_2_9 ps p1 p2 p3 p4 p5,opp45_2_10 ps p1 p2 p3 p4 p5,opp45_2_11 ps p1 p2 p3 p4 p5,opp45_2_12 ps p1 p2 p3 p4 p5,opp45_2_13 ps p1 p2 p3 p4 p5,opp45_2_14 ps p1 p2 p3 p4 p5,opp45_2_15 ps p1 p2 p3 p4 p5,opp45_2_16 ps p1 p2 p3 p4 p5,opp45_2_17 ps p1 p2 p3 p4 p5,opp45_2_18 ps p1 p2 p3 p4 p5,opp45_2_19 ps p1 p2 p3 p4 p5,opp45_2_20 ps p1 p2 p3 p4 p5,opp45_2_21 ps p1 p2 p3 p4 p5]

theorem tk_r2 (Q : Exit → Act → World → Prop) (hQ : ∀ c x (n : Nat) v w,Q (.panic c) (x.put (some n) v) w → Q (.panic c) x w) (id : Nat) (ps p1 p2 p3 p4 p5 : String) {v0 v2 v4 v5 v6 v7 v8 v9 xa xb xc xd xe xf xg xh xi xj xk xl xm xn xo xp xq xr xt xu xv : Value} (z : World) (B : Nat) (a : Pa) (c : Int) (w : World) (hS : TkW B a (World.drew w))
  (hz0 : Below z.heap.size z (World.drew w))
  (hq : ∀ u0 u1 u2 u3 u4 u w',TkAt w' u ⟨a.p.p4,a.p.p3,lbI a,c,a.p.p5,a.p.p14,9223372036854775807⟩ → Below z.heap.size z w' → Q .normal (frp45 v0 (.pointer (some ⟨B,0,none⟩)) u (.int .i64 c) v4 v5 v6 v7 v8 v9 (.pointer (some ⟨B,2,none⟩)) (.pointer (some ⟨B,6,none⟩)) (.int .i64 a.p.p4) u0 (.pointer (some ⟨B,2,none⟩)) (.pointer (some ⟨B,5,none⟩)) (.int .i64 a.p.p3) u1 (.agg (paC a)) (.int .i64 (lbI a)) u2 (.int .i64 c) (.pointer (some ⟨B,2,none⟩)) (.pointer (some ⟨B,16,none⟩)) (.int .i64 a.p.p14) u3 (.pointer (some ⟨B,2,none⟩)) (.pointer (some ⟨B,7,none⟩)) (.int .i64 a.p.p5) u4 u) w') :
  (Code.region id (opp45_2 ps p1 p2 p3 p4 p5) true).wp Tryz.prog Q (frp45 v0 (.pointer (some ⟨B,0,none⟩)) v2 (.int .i64 c) v4 v5 v6 v7 v8 v9 xa xb xc xd xe xf xg xh xi xj xk xl xm xn xo xp xq xr xt xu xv) w := by
 refine wp_region_held (S := TkW B a) (by kernel_rfl) ?_
 change wpAnyH _ _ _ _ _ 22 _ _ (World.drew w)
 refine take_r 0 ⟨some 10,.fieldAddr 95 (.tmp 1) 2,0,ps,#[],none⟩ (.pointer (some ⟨B,2,none⟩)) hQ (fun w hS => by unfold frp45; go_simp) hS ?_
 refine take_r 1 ⟨some 11,.fieldAddr 93 (.tmp 10) 4,0,ps,#[⟨0,.data⟩],none⟩ (.pointer (some ⟨B,6,none⟩)) hQ (fun w hS => by unfold frp45; go_simp) hS ?_
 refine take_r 2 ⟨some 12,.load 3 (.tmp 11),3,ps,#[⟨1,.data⟩],none⟩ (.int .i64 a.p.p4) hQ (fun w hS => by have e := hS.c4; unfold frp45; go_simp) hS ?_
 refine take_r 4 ⟨some 14,.fieldAddr 95 (.tmp 1) 2,0,ps,#[],none⟩ (.pointer (some ⟨B,2,none⟩)) hQ (fun w hS => by unfold frp45; go_simp) hS ?_
 refine take_r 5 ⟨some 15,.fieldAddr 93 (.tmp 14) 3,0,ps,#[⟨4,.data⟩],none⟩ (.pointer (some ⟨B,5,none⟩)) hQ (fun w hS => by unfold frp45; go_simp) hS ?_
 refine take_k 6 (opp45_2_6 ps p1 p2 p3 p4 p5) (.int .i64 a.p.p3) (frp45 v0 (.pointer (some ⟨B,0,none⟩)) v2 (.int .i64 c) v4 v5 v6 v7 v8 v9 (.pointer (some ⟨B,2,none⟩)) (.pointer (some ⟨B,6,none⟩)) (.int .i64 a.p.p4) xd (.pointer (some ⟨B,2,none⟩)) (.pointer (some ⟨B,5,none⟩)) (.int .i64 a.p.p3) xh xi xj xk xl xm xn xo xp xq xr xt xu xv) hQ (fun w hS => by have e := hS.c3; unfold frp45 opp45_2_6; go_simp) hS ?_
 refine take_r 8 ⟨some 18,.load 95 (.tmp 1),95,ps,#[],none⟩ (.agg (paC a)) hQ (fun w hS => load_pa hS.p rfl rfl) hS ?_
 refine take_r 11 ⟨some 21,.move (.tmp 3),3,ps,#[],none⟩ (.int .i64 c) hQ (fun w _ => by kernel_rfl) hS ?_
 refine take_r 12 ⟨some 22,.fieldAddr 95 (.tmp 1) 2,0,ps,#[],none⟩ (.pointer (some ⟨B,2,none⟩)) hQ (fun w hS => by unfold frp45; go_simp) hS ?_
 refine take_r 13 ⟨some 23,.fieldAddr 93 (.tmp 22) 14,0,ps,#[⟨12,.data⟩],none⟩ (.pointer (some ⟨B,16,none⟩)) hQ (fun w hS => by unfold frp45; go_simp) hS ?_
 refine take_r 14 ⟨some 24,.load 3 (.tmp 23),3,ps,#[⟨13,.data⟩],none⟩ (.int .i64 a.p.p14) hQ (fun w hS => by have e := hS.c14; unfold frp45; go_simp) hS ?_
 refine take_k 16 (opp45_2_16 ps p1 p2 p3 p4 p5) (.pointer (some ⟨B,2,none⟩)) (frp45 v0 (.pointer (some ⟨B,0,none⟩)) v2 (.int .i64 c) v4 v5 v6 v7 v8 v9 (.pointer (some ⟨B,2,none⟩)) (.pointer (some ⟨B,6,none⟩)) (.int .i64 a.p.p4) xd (.pointer (some ⟨B,2,none⟩)) (.pointer (some ⟨B,5,none⟩)) (.int .i64 a.p.p3) xh (.agg (paC a)) xj xk (.int .i64 c) (.pointer (some ⟨B,2,none⟩)) (.pointer (some ⟨B,16,none⟩)) (.int .i64 a.p.p14) xp (.pointer (some ⟨B,2,none⟩)) xr xt xu xv) hQ (fun w hS => by unfold frp45 opp45_2_16; go_simp) hS ?_
 refine take_r 17 ⟨some 27,.fieldAddr 93 (.tmp 26) 5,0,ps,#[⟨16,.data⟩],none⟩ (.pointer (some ⟨B,7,none⟩)) hQ (fun w hS => by unfold frp45; go_simp) hS ?_
 refine take_r 18 ⟨some 28,.load 3 (.tmp 27),3,ps,#[⟨17,.data⟩],none⟩ (.int .i64 a.p.p5) hQ (fun w hS => by have e := hS.c5; unfold frp45; go_simp) hS ?_
 refine want_k 3 (opp45_2_3 ps p1 p2 p3 p4 p5) fun K hK => ?_
 unfold frp45 opp45_2_3
 go_simp
 refine (from90 a.p.p4 9223372036854775807 _).mono ?_
 rintro e w1 ⟨⟨u0,rfl,f0⟩,hb1⟩
 have hS1 : TkW B a w1 := ⟨hS.p.below hb1 hS.p.lt⟩
 have hz1 := hz0.trans (hb1.mono hz0.size)
 refine hK _ _ hS1 (cast_h (frp45 v0 (.pointer (some ⟨B,0,none⟩)) v2 (.int .i64 c) v4 v5 v6 v7 v8 v9 (.pointer (some ⟨B,2,none⟩)) (.pointer (some ⟨B,6,none⟩)) (.int .i64 a.p.p4) u0 (.pointer (some ⟨B,2,none⟩)) (.pointer (some ⟨B,5,none⟩)) (.int .i64 a.p.p3) xh (.agg (paC a)) xj xk (.int .i64 c) (.pointer (some ⟨B,2,none⟩)) (.pointer (some ⟨B,16,none⟩)) (.int .i64 a.p.p14) xp (.pointer (some ⟨B,2,none⟩)) (.pointer (some ⟨B,7,none⟩)) (.int .i64 a.p.p5) xu xv) (by kernel_rfl) ?_)
 clear hK K
 refine want_k 7 (opp45_2_7 ps p1 p2 p3 p4 p5) fun K hK => ?_
 unfold frp45 opp45_2_7
 go_simp
 refine (from90 a.p.p3 1 _).mono ?_
 rintro e w2 ⟨⟨u1,rfl,f1⟩,hb2⟩
 have hS2 : TkW B a w2 := ⟨hS1.p.below hb2 hS1.p.lt⟩
 have hz2 := hz1.trans (hb2.mono hz1.size)
 replace f0 := f0.below hb2 (Nat.le_refl _)
 refine hK _ _ hS2 (cast_h (frp45 v0 (.pointer (some ⟨B,0,none⟩)) v2 (.int .i64 c) v4 v5 v6 v7 v8 v9 (.pointer (some ⟨B,2,none⟩)) (.pointer (some ⟨B,6,none⟩)) (.int .i64 a.p.p4) u0 (.pointer (some ⟨B,2,none⟩)) (.pointer (some ⟨B,5,none⟩)) (.int .i64 a.p.p3) u1 (.agg (paC a)) xj xk (.int .i64 c) (.pointer (some ⟨B,2,none⟩)) (.pointer (some ⟨B,16,none⟩)) (.int .i64 a.p.p14) xp (.pointer (some ⟨B,2,none⟩)) (.pointer (some ⟨B,7,none⟩)) (.int .i64 a.p.p5) xu xv) (by kernel_rfl) ?_)
 clear hK K
 refine want_k 9 (opp45_2_9 ps p1 p2 p3 p4 p5) fun K hK => ?_
 unfold frp45 opp45_2_9
 go_simp
 refine (label91 a _).mono ?_
 rintro e w3 ⟨rfl,hb3⟩
 have hS3 : TkW B a w3 := ⟨hS2.p.below hb3 hS2.p.lt⟩
 have hz3 := hz2.trans (hb3.mono hz2.size)
 replace f0 := f0.below hb3 (Nat.le_refl _)
 replace f1 := f1.below hb3 (Nat.le_refl _)
 refine hK _ _ hS3 (cast_h (frp45 v0 (.pointer (some ⟨B,0,none⟩)) v2 (.int .i64 c) v4 v5 v6 v7 v8 v9 (.pointer (some ⟨B,2,none⟩)) (.pointer (some ⟨B,6,none⟩)) (.int .i64 a.p.p4) u0 (.pointer (some ⟨B,2,none⟩)) (.pointer (some ⟨B,5,none⟩)) (.int .i64 a.p.p3) u1 (.agg (paC a)) (.int .i64 (lbI a)) xk (.int .i64 c) (.pointer (some ⟨B,2,none⟩)) (.pointer (some ⟨B,16,none⟩)) (.int .i64 a.p.p14) xp (.pointer (some ⟨B,2,none⟩)) (.pointer (some ⟨B,7,none⟩)) (.int .i64 a.p.p5) xu xv) (by kernel_rfl) ?_)
 clear hK K
 refine want_k 10 (opp45_2_10 ps p1 p2 p3 p4 p5) fun K hK => ?_
 unfold frp45 opp45_2_10
 go_simp
 refine (from90 (lbI a) 1 _).mono ?_
 rintro e w4 ⟨⟨u2,rfl,f2⟩,hb4⟩
 have hS4 : TkW B a w4 := ⟨hS3.p.below hb4 hS3.p.lt⟩
 have hz4 := hz3.trans (hb4.mono hz3.size)
 replace f0 := f0.below hb4 (Nat.le_refl _)
 replace f1 := f1.below hb4 (Nat.le_refl _)
 refine hK _ _ hS4 (cast_h (frp45 v0 (.pointer (some ⟨B,0,none⟩)) v2 (.int .i64 c) v4 v5 v6 v7 v8 v9 (.pointer (some ⟨B,2,none⟩)) (.pointer (some ⟨B,6,none⟩)) (.int .i64 a.p.p4) u0 (.pointer (some ⟨B,2,none⟩)) (.pointer (some ⟨B,5,none⟩)) (.int .i64 a.p.p3) u1 (.agg (paC a)) (.int .i64 (lbI a)) u2 (.int .i64 c) (.pointer (some ⟨B,2,none⟩)) (.pointer (some ⟨B,16,none⟩)) (.int .i64 a.p.p14) xp (.pointer (some ⟨B,2,none⟩)) (.pointer (some ⟨B,7,none⟩)) (.int .i64 a.p.p5) xu xv) (by kernel_rfl) ?_)
 clear hK K
 refine want_k 15 (opp45_2_15 ps p1 p2 p3 p4 p5) fun K hK => ?_
 unfold frp45 opp45_2_15
 go_simp
 refine (from90 c a.p.p14 _).mono ?_
 rintro e w5 ⟨⟨u3,rfl,f3⟩,hb5⟩
 have hS5 : TkW B a w5 := ⟨hS4.p.below hb5 hS4.p.lt⟩
 have hz5 := hz4.trans (hb5.mono hz4.size)
 replace f0 := f0.below hb5 (Nat.le_refl _)
 replace f1 := f1.below hb5 (Nat.le_refl _)
 replace f2 := f2.below hb5 (Nat.le_refl _)
 refine hK _ _ hS5 (cast_h (frp45 v0 (.pointer (some ⟨B,0,none⟩)) v2 (.int .i64 c) v4 v5 v6 v7 v8 v9 (.pointer (some ⟨B,2,none⟩)) (.pointer (some ⟨B,6,none⟩)) (.int .i64 a.p.p4) u0 (.pointer (some ⟨B,2,none⟩)) (.pointer (some ⟨B,5,none⟩)) (.int .i64 a.p.p3) u1 (.agg (paC a)) (.int .i64 (lbI a)) u2 (.int .i64 c) (.pointer (some ⟨B,2,none⟩)) (.pointer (some ⟨B,16,none⟩)) (.int .i64 a.p.p14) u3 (.pointer (some ⟨B,2,none⟩)) (.pointer (some ⟨B,7,none⟩)) (.int .i64 a.p.p5) xu xv) (by kernel_rfl) ?_)
 clear hK K
 refine want_k 19 (opp45_2_19 ps p1 p2 p3 p4 p5) fun K hK => ?_
 unfold frp45 opp45_2_19
 go_simp
 refine (from92 a.p.p5 _).mono ?_
 rintro e w6 ⟨⟨u4,rfl,f4⟩,hb6⟩
 have hS6 : TkW B a w6 := ⟨hS5.p.below hb6 hS5.p.lt⟩
 have hz6 := hz5.trans (hb6.mono hz5.size)
 replace f0 := f0.below hb6 (Nat.le_refl _)
 replace f1 := f1.below hb6 (Nat.le_refl _)
 replace f2 := f2.below hb6 (Nat.le_refl _)
 replace f3 := f3.below hb6 (Nat.le_refl _)
 refine hK _ _ hS6 (cast_h (frp45 v0 (.pointer (some ⟨B,0,none⟩)) v2 (.int .i64 c) v4 v5 v6 v7 v8 v9 (.pointer (some ⟨B,2,none⟩)) (.pointer (some ⟨B,6,none⟩)) (.int .i64 a.p.p4) u0 (.pointer (some ⟨B,2,none⟩)) (.pointer (some ⟨B,5,none⟩)) (.int .i64 a.p.p3) u1 (.agg (paC a)) (.int .i64 (lbI a)) u2 (.int .i64 c) (.pointer (some ⟨B,2,none⟩)) (.pointer (some ⟨B,16,none⟩)) (.int .i64 a.p.p14) u3 (.pointer (some ⟨B,2,none⟩)) (.pointer (some ⟨B,7,none⟩)) (.int .i64 a.p.p5) u4 xv) (by kernel_rfl) ?_)
 clear hK K
 refine want_k 20 (opp45_2_20 ps p1 p2 p3 p4 p5) fun K hK => ?_
 obtain ⟨a0,b0,q0,k0,k1⟩ := f0.ex
 obtain ⟨a1,b1,q1,k2,k3⟩ := f1.ex
 obtain ⟨a2,b2,q2,k4,k5⟩ := f2.ex
 obtain ⟨a3,b3,q3,k6,k7⟩ := f3.ex
 obtain ⟨b4,q4,k8⟩ := f4.ex
 refine wp_build5 (.tmp 13) (.tmp 17) (.tmp 20) (.tmp 25) (.tmp 29) (by unfold opp45_2_20; rfl) a0 b0 a1 b1 a2 b2 a3 b3 b4 q0 q1 q2 q3 q4 ?_
 have hb7 := (Below.refl w6.heap.size w6).alloc (Nat.le_refl _) (.cells #[clL a0 b0,clL a1 b1,clL a2 b2,clL a3 b3,clR b4] 221)
 have hS7 : TkW B a (w6.alloc (.cells #[clL a0 b0,clL a1 b1,clL a2 b2,clL a3 b3,clR b4] 221)) := ⟨hS6.p.below hb7 hS6.p.lt⟩
 have hT : TkAt (w6.alloc (.cells #[clL a0 b0,clL a1 b1,clL a2 b2,clL a3 b3,clR b4] 221)) (.slice (some ⟨w6.heap.size,0,none⟩) 5 5) ⟨a.p.p4,a.p.p3,lbI a,c,a.p.p5,a.p.p14,9223372036854775807⟩ := ⟨_,_,_,_,_,_,rfl,World.alloc_heap_new _ _,⟨_,_,rfl,k0.below hb7 (Nat.le_refl _),k1.below hb7 (Nat.le_refl _)⟩,⟨_,_,rfl,k2.below hb7 (Nat.le_refl _),k3.below hb7 (Nat.le_refl _)⟩,⟨_,_,rfl,k4.below hb7 (Nat.le_refl _),k5.below hb7 (Nat.le_refl _)⟩,⟨_,_,rfl,k6.below hb7 (Nat.le_refl _),k7.below hb7 (Nat.le_refl _)⟩,⟨_,rfl,k8.below hb7 (Nat.le_refl _)⟩⟩
 have hz7 := hz6.trans (hb7.mono hz6.size)
 refine hK _ _ hS7 (cast_h (frp45 v0 (.pointer (some ⟨B,0,none⟩)) v2 (.int .i64 c) v4 v5 v6 v7 v8 v9 (.pointer (some ⟨B,2,none⟩)) (.pointer (some ⟨B,6,none⟩)) (.int .i64 a.p.p4) u0 (.pointer (some ⟨B,2,none⟩)) (.pointer (some ⟨B,5,none⟩)) (.int .i64 a.p.p3) u1 (.agg (paC a)) (.int .i64 (lbI a)) u2 (.int .i64 c) (.pointer (some ⟨B,2,none⟩)) (.pointer (some ⟨B,16,none⟩)) (.int .i64 a.p.p14) u3 (.pointer (some ⟨B,2,none⟩)) (.pointer (some ⟨B,7,none⟩)) (.int .i64 a.p.p5) u4 (.slice (some ⟨w6.heap.size,0,none⟩) 5 5)) (by kernel_rfl) ?_)
 clear hK K
 refine take_r 21 ⟨some 2,.assign (.tmp 30),172,ps,#[⟨20,.data⟩,⟨19,.chain⟩,⟨0,.phase⟩,⟨1,.phase⟩,⟨2,.phase⟩,⟨3,.phase⟩,⟨4,.phase⟩,⟨5,.phase⟩,⟨6,.phase⟩,⟨7,.phase⟩,⟨8,.phase⟩,⟨9,.phase⟩,⟨10,.phase⟩,⟨11,.phase⟩,⟨12,.phase⟩,⟨13,.phase⟩,⟨14,.phase⟩,⟨15,.phase⟩,⟨16,.phase⟩,⟨17,.phase⟩,⟨18,.phase⟩,⟨19,.phase⟩,⟨20,.phase⟩],none⟩ (.slice (some ⟨w6.heap.size,0,none⟩) 5 5) hQ (fun w _ => by kernel_rfl) hS7 ?_
 exact wpAnyH_done (by kernel_rfl) (hq _ _ _ _ _ _ _ hT hz7) _
theorem takers_any (a : Pa) (w : World) (hA : PaAt w a) : Calls Tryz.prog 103 #[paV a] w fun e w' => (∃ v,e = .returned v ∧ TkAt w' v (tkP a)) ∧ Below w.heap.size w w' := by
 have hB := (Below.refl w.heap.size w).alloc (Nat.le_refl _) (Obj.cells (paC a) 95)
 have hP := PB.new w a
 have hd := drop_any a _ (hA.below hB (Nat.le_refl _))
 unfold tkP
 generalize drV a = c at *
 unfold paV at hd ⊢
 have hBh : Hid (Below w.heap.size w (w.alloc (.cells (paC a) 95))) := hB
 clear hB hA
 generalize hw1 : w.alloc (.cells (paC a) 95) = w1 at *
 go_enter Tryz.func103,Tryz.ntmps103
 go_wp2_with (first | (refine wpList_load_row rfl 95 _ rfl w.heap.size rfl 95 _ (0,0) _ hP.row Tryz.underlying95 rfl (info34 a) ?_) | (go_at_call 141; refine hd.mono ?_; rintro e w2 ⟨rfl,hb2⟩))
 refine tk_r2 _ (fun _ _ _ _ _ h => h) _ _ _ _ _ _ _ w w.heap.size a c w2 ⟨⟨(hP.below hb2 hP.lt).row⟩⟩ (hBh.out.trans (hb2.mono hBh.out.size)).drew ?_
 intro u0 u1 u2 u3 u4 u w3 hT hz
 unfold frp45
 go_wp2_with fail
 go_ret
 exact ⟨⟨_,rfl,hT⟩,hz⟩
end Go.Proofs.YtaphggjakaghjaaGreatDoor

namespace Go.Proofs.YtaphggjakaghjaaGreatDoor
open Go.RowKit Go.Shelf
set_option maxRecDepth 100000
set_option maxHeartbeats 2000000

theorem results_tct {P : Program} {fn : Func} {u p v : Tmp} {ty : TypeId} (h : fn.results = #[.tmp u,.cell p ty,.tmp v]) (tmps : Array Value) (w : World) (g : Nat) (t : TypeId) (cs : Array Value) (fr : Nat × Nat) (d : TypeDesc)
  (hp : tmps.getD p undef = .pointer (some ⟨g,0,none⟩)) (hg : w.heap[g]? = some (.cells cs t fr))
  (hu : P.underlying ty = some d) (hd : (match d with | .struct _ | .array _ _ => true | _ => false) = true) (hi : (P.info? ty).map (·.size) = some cs.size) :
  (results fn tmps).run P w = .ok (.tuple #[tmps.getD u undef,.agg cs,tmps.getD v undef]) w := by
 have hp' : tmps[p]?.getD undef = .pointer (some ⟨g,0,none⟩) := by simpa using hp
 simp [results,h,hp',asAddr,run_loadVar_row w g t ty cs fr d hg hu hd hi,Result.andThen]
theorem check_any (a : Pa) (w : World) (hA : PaAt w a) : Calls Tryz.prog 139 #[paV a] w fun e w' => e = .returned (.int .i64 (chkI a)) ∧ Below w.heap.size w w' := by
 have hB := (Below.refl w.heap.size w).alloc (Nat.le_refl _) (Obj.cells (paC a) 95)
 have hP := PB.new w a
 have hA1 := hA.below hB (Nat.le_refl _)
 have hs := msplit_any a _ hA1
 unfold paV at hs ⊢
 generalize hw1 : w.alloc (.cells (paC a) 95) = w1 at *
 go_enter Tryz.func139,Tryz.ntmps139
 go_wp2_with (refine wpList_load_row rfl 95 _ rfl w.heap.size rfl 95 _ (0,0) _ hP.row Tryz.underlying95 rfl (info34 a) ?_)
 refine hs.mono ?_
 rintro e w2 ⟨⟨v,rfl,_⟩,hb2⟩
 have hB2 := hB.trans (hb2.mono hB.size)
 go_wp2_with fail
 go_ret
 exact ⟨rfl,hB2⟩
def paE (a : Pa) (ss : List Sl) (r : Sl) : Int := if chkI a ≠ 0 then chkI a else ckS ss r
theorem paE_ok {a : Pa} {ss : List Sl} {r : Sl} (h : paE a ss r = 0) : chkI a = 0 ∧ ckS ss r = 0 := by
 unfold paE at h
 split at h
 ·contradiction
 ·rename_i h1
  exact ⟨Decidable.not_not.1 h1,h⟩
theorem refuse44 (a : Pa) (v : Value) (ss : List Sl) (r : Sl) (hl : ss.length ≤ 9223372036854775807) (w : World) (hA : PaAt w a) (hV : SlsAt w v ss) :
  Calls Tryz.prog 102 #[paV a,v,.agg (slL r).toArray] w fun e w' => e = .returned (.int .i64 (paE a ss r)) ∧ Below w.heap.size w w' := by
 have hB := below2 w (Obj.cells (paC a) 95) (.cells #[.int .i64 r.x,.int .i64 r.w] 98)
 have hP : PB ((w.alloc (.cells (paC a) 95)).alloc (.cells #[.int .i64 r.x,.int .i64 r.w] 98)) w.heap.size a := ⟨(Below.heap_alloc _ _ _ (by simp)).trans (World.alloc_heap_new w _)⟩
 have hx : ((w.alloc (.cells (paC a) 95)).alloc (.cells #[.int .i64 r.x,.int .i64 r.w] 98)).heap[w.heap.size + 1]? = some (.cells #[.int .i64 r.x,.int .i64 r.w] 98 (0,0)) := alloc2_heap w _ _
 have hc := check_any a _ (hA.below hB (Nat.le_refl _))
 have hV2 := hV.below hB (Nat.le_refl _)
 obtain ⟨va,vc,rfl,-⟩ := hV.ex
 have hBh : Hid (Below w.heap.size w ((w.alloc (.cells (paC a) 95)).alloc (.cells #[.int .i64 r.x,.int .i64 r.w] 98))) := hB
 have hV2h : Hid (SlsAt ((w.alloc (.cells (paC a) 95)).alloc (.cells #[.int .i64 r.x,.int .i64 r.w] 98)) (.slice va ss.length vc) ss) := hV2
 clear hV hV2 hA hB
 unfold paV at hc ⊢
 show Calls Tryz.prog 102 #[.agg (paC a),.slice va ss.length vc,.agg #[.int .i64 r.x,.int .i64 r.w]] w _
 generalize hwz : (w.alloc (.cells (paC a) 95)).alloc (.cells #[.int .i64 r.x,.int .i64 r.w] 98) = wz at *
 by_cases hk : chkI a = 0
 ·have e : paE a ss r = ckS ss r := by unfold paE; rw [if_neg (by rw [hk]; exact fun h => h rfl)]
  rw [hk] at hc
  rw [e]
  have hfc : Hid (∀ W,Below wz.heap.size wz W → Calls Tryz.prog 140 #[.slice va ss.length vc,.agg #[.int .i64 r.x,.int .i64 r.w]] W fun e w' => e = .returned (.int .i64 (ckS ss r)) ∧ Below W.heap.size W w') := fun W hW => fcheck_any _ ss r hl W (hV2h.out.below hW (Nat.le_refl _))
  clear e hk hV2h
  generalize ckS ss r = k at *
  go_enter Tryz.func102,Tryz.ntmps102
  go_wp2_with (first | (refine wpList_load_row rfl 95 _ rfl w.heap.size rfl 95 _ (0,0) _ hP.row Tryz.underlying95 rfl (info34 a) ?_) | (go_at_call 139; refine hc.mono ?_; rintro e w2 ⟨rfl,hb2⟩; have hx2 : w2.heap[w.heap.size + 1]? = some (.cells #[.int .i64 r.x,.int .i64 r.w] 98 (0,0)) := (hb2.block _ (Array.getElem?_eq_some_iff.1 hx).1).trans hx; have hb2h : Hid (Below wz.heap.size wz w2) := hb2; clear hb2) | (refine wpList_load_row rfl 98 _ rfl (w.heap.size + 1) rfl 98 _ (0,0) _ hx2 Tryz.underlying98 rfl (info25 _ _) ?_) | (go_at_call 140; refine (hfc.out w2 hb2h.out).mono ?_; rintro e w3 ⟨rfl,hb3⟩))
  go_ret
  exact ⟨rfl,(hBh.out.trans (hb2h.out.mono hBh.out.size)).trans (hb3.mono (Nat.le_trans hBh.out.size hb2h.out.size))⟩
 ·have e : paE a ss r = chkI a := by unfold paE; rw [if_pos hk]
  rw [e]
  have hk' : (chkI a == 0) = false := by simpa using hk
  clear e
  generalize chkI a = k at *
  go_enter Tryz.func102,Tryz.ntmps102
  go_wp2_with (first | (refine wpList_load_row rfl 95 _ rfl w.heap.size rfl 95 _ (0,0) _ hP.row Tryz.underlying95 rfl (info34 a) ?_) | (go_at_call 139; refine hc.mono ?_; rintro e w2 ⟨rfl,hb2⟩))
  go_ret
  exact ⟨rfl,hBh.out.trans (hb2.mono hBh.out.size)⟩
end Go.Proofs.YtaphggjakaghjaaGreatDoor

namespace Go.Proofs.YtaphggjakaghjaaGreatDoor
open Go.RowKit Go.Shelf

structure RB {α : Type} (k : Nat) (f : α → List Value) (W : World) (g : Nat) (L : List α) : Prop where
 lt : g < W.heap.size
 all : ∀ i (hi : i < L.length) (j : Nat) v,(f L[i])[j]? = some v → W.cell? ⟨g,i * k + j,none⟩ = some v ∧ W.frozen? ⟨g,i * k + j,none⟩ = false
section
variable {α : Type} {k : Nat} {f : α → List Value} {W W' : World} {g : Nat} {L : List α}
theorem RB.recs (h : RB k f W g L) {n cap : Nat} (hn : n ≤ L.length) (hc : n ≤ cap) : RecAt k f W (.slice (some ⟨g,0,none⟩) n cap) (L.take n) := by
 refine ⟨⟨some ⟨g,0,none⟩,cap,by rw [List.length_take,Nat.min_eq_left hn],.inr ⟨g,0,rfl,h.lt,fun i hi j v hv => ?_⟩⟩,fun a n' c e => ?_⟩
 ·have hil : i < L.length := by rw [List.length_take] at hi; omega
  rw [List.getElem_take] at hv
  have := (h.all i hil j v hv).1
  rw [Nat.zero_add]
  exact this
 ·cases e
  exact hc
theorem RB.same (h : RB k f W g L) (hs : W.heap.size ≤ W'.heap.size) (hbk : W'.heap[g]? = W.heap[g]?) : RB k f W' g L := ⟨Nat.lt_of_lt_of_le h.lt hs,fun i hi j v hv => by
 have := h.all i hi j v hv
 have e1 : W'.cell? ⟨g,i * k + j,none⟩ = W.cell? ⟨g,i * k + j,none⟩ := by unfold World.cell?; rw [hbk]
 have e2 : W'.frozen? ⟨g,i * k + j,none⟩ = W.frozen? ⟨g,i * k + j,none⟩ := by unfold World.frozen?; rw [hbk]
 rw [e1,e2]; exact this⟩
theorem RB.below {n : Nat} (h : RB k f W g L) (hb : Below n W W') (hn : g < n) : RB k f W' g L := h.same hb.size (hb.block g hn)
theorem RB.turns {X : Nat → Prop} (h : RB k f W g L) (hb : Turns X W W') (hn : ¬ X g) : RB k f W' g L := h.same hb.size (hb.block g h.lt hn)
theorem turns_setCells {X : Nat → Prop} {g : Nat} (hg : X g) : ∀ (vs : List Value) (o : Nat) (W : World),Turns X W (W.setCells g o vs)
 | [],_,_W => Turns.refl _ _
 | v :: r,o,W => (Turns.setCell W (p := ⟨g,o,none⟩) hg v).trans (turns_setCells hg r (o + 1) _)
theorem RB.there (hf : ∀ a,(f a).length = k) (h : RB k f W g L) {p : Nat} (hp : p < L.length) : W.there g (p * k) k := fun j hj => by
 obtain ⟨v,hv⟩ : ∃ v,(f L[p])[j]? = some v := ⟨(f L[p])[j]'(by rw [hf]; exact hj),List.getElem?_eq_getElem _⟩
 have := h.all p hp j v hv
 exact ⟨by rw [this.1]; rfl,this.2⟩
theorem apart_mul {i p j k : Nat} (hj : j < k) (e : ¬ p = i) : i * k + j < p * k ∨ p * k + k ≤ i * k + j := by
 rcases Nat.lt_or_gt_of_ne e with h | h
 ·right
  have : (p + 1) * k ≤ i * k := Nat.mul_le_mul_right k h
  rw [Nat.succ_mul] at this
  omega
 ·left
  have : (i + 1) * k ≤ p * k := Nat.mul_le_mul_right k h
  rw [Nat.succ_mul] at this
  omega
theorem RB.set (hf : ∀ a,(f a).length = k) (h : RB k f W g L) {p : Nat} (hp : p < L.length) (x : α) : RB k f (W.setCells g (p * k) (f x)) g (L.set p x) := by
 refine ⟨Nat.lt_of_lt_of_le h.lt (turns_setCells (X := fun _ => True) trivial _ _ _).size,fun i hi j v hv => ?_⟩
 have hi' : i < L.length := by simpa using hi
 have hj : j < k := by have := (List.getElem?_eq_some_iff.1 hv).1; rw [hf] at this; exact this
 rw [World.frozen?_setCells]
 by_cases e : p = i
 ·subst e
  rw [List.getElem_set_self] at hv
  have := (World.rangeAt_setCells_same W g (p * k) (f x) (by rw [hf]; exact h.there hf hp)) j v hv
  refine ⟨this,?_⟩
  exact ((h.there hf hp) j hj).2
 ·rw [List.getElem_set_ne e] at hv
  have := h.all i hi' j v hv
  refine ⟨?_,this.2⟩
  rw [World.cell?_setCells_out g (f x) (p * k) W ⟨g,i * k + j,none⟩ (fun _ _ => by rw [hf]; exact apart_mul hj e)]
  exact this.1
theorem RB.of_row {t : TypeId} {cur : Array Value} (hg : W.heap[g]? = some (.cells cur t (0,0))) (hc : ∀ i (hi : i < L.length) (j : Nat) v,(f L[i])[j]? = some v → cur[i * k + j]? = some v) : RB k f W g L :=
 ⟨(Array.getElem?_eq_some_iff.1 hg).1,fun i hi j v hv => ⟨by rw [Lib.cell_of_heap hg]; exact hc i hi j v hv,Lib.frozen_of_heap hg _⟩⟩
theorem made_rec (hf : ∀ a,(f a).length = k) (hk : 0 < k) (z : α) (n : Nat) : madeCells (f z).toArray (n * k) = ((List.replicate n z).flatMap f).toArray := by
 apply Array.ext
 ·rw [size_madeCells]; simp only [List.size_toArray]; rw [fm_len hf,List.length_replicate]
 ·intro i h1 h2
  have hik : i < n * k := by simpa [madeCells] using h1
  have hdv : i / k < n := Nat.div_lt_of_lt_mul (by rw [Nat.mul_comm]; exact hik)
  have hmd : i % k < k := Nat.mod_lt _ hk
  have hi : i / k < (List.replicate n z).length := by simpa using hdv
  have hv := fm_get hf (List.replicate n z) hi (i % k) hmd
  rw [List.getElem_replicate,show i / k * k + i % k = i by rw [Nat.mul_comm]; exact Nat.div_add_mod i k] at hv
  have : ((List.replicate n z).flatMap f)[i]? = some (((List.replicate n z).flatMap f).toArray[i]'h2) := by simp
  rw [this] at hv
  have hm : (madeCells (f z).toArray (n * k))[i] = (f z).toArray[i % (f z).toArray.size]! := by simp [madeCells]
  have h8 : (f z).toArray.size = k := by simpa using hf z
  rw [hm,h8,getElem!_pos _ _ (by rw [h8]; exact hmd)]
  rw [List.getElem?_eq_getElem (by rw [hf]; exact hmd)] at hv
  rw [Option.some.inj hv]
  simp
end
end Go.Proofs.YtaphggjakaghjaaGreatDoor

namespace Go.Proofs.YtaphggjakaghjaaGreatDoor
open Go.RowKit Go.Shelf

def ElOk (t e : TypeId) (k bytes : Nat) : Prop := Tryz.prog.underlying t = some (.slice e) ∧ ∃ i z,Tryz.prog.info? e = some i ∧ i.zero = some z ∧ i.size = k ∧ i.bytes = bytes ∧ z.cells.size = k
theorem ElOk.of {t e : TypeId} {k bytes : Nat} (hu : Tryz.prog.underlying t = some (.slice e)) (h : (Tryz.prog.info? e).map (fun i => (i.zero.map (fun z => z.cells.size),i.size,i.bytes)) = some (some k,k,bytes)) : ElOk t e k bytes := by
 refine ⟨hu,?_⟩
 cases hi : Tryz.prog.info? e with
 | none => rw [hi] at h; cases h
 | some i =>
  rw [hi] at h
  simp only [Option.map_some,Option.some.injEq,Prod.mk.injEq] at h
  obtain ⟨h1,h2,h3⟩ := h
  cases hz : i.zero with
  | none => rw [hz] at h1; cases h1
  | some z => rw [hz] at h1; exact ⟨i,z,rfl,hz,h2,h3,by simpa using h1⟩
section
variable {α : Type} {k : Nat} {f : α → List Value}
theorem row_below {w w' : World} {base : Nat} {v : Value} (hg : w.grownBy w' v.ownBlock) (hv : ∀ g,v.ownBlock = some g → base ≤ g) (hb : base ≤ w.heap.size) : Below base w w' :=
 ⟨hg.os,hg.tape,hg.output,hg.size,fun j hj => hg.block j (Nat.lt_of_lt_of_le hj hb) (fun e => by have := hv j e.symm; omega)⟩
theorem rec_cells (_hf : ∀ a,(f a).length = k) (W : World) (e : TypeId) (p : α) : ∀ j u,(f p)[j]? = some u → (W.alloc (.cells (f p).toArray e)).cell? ((⟨W.heap.size,0,none⟩ : Addr).add j) = some u := fun j u hu => by
 rw [addr_add0,Lib.cell_of_heap (World.alloc_heap_new W _)]
 simpa using hu
theorem wp_app1 {oi : Oper} {a : Act} {w w0 : World} {K : Act → World → Prop} {Q : Exit → Act → World → Prop} {t e : TypeId} {bytes : Nat} (hE : ElOk t e k bytes) (hf : ∀ a,(f a).length = k) (hone : ∀ p,∀ u ∈ f p,u.oneCell' = true) (hk : 0 < k) (hby : bytes ≤ 1000)
  (x y : Operand) (ho : oi.op = Op.call { callee := Callee.builtin Builtin.append,args := #[x,y],argTypes := #[t,t] }) (base : Nat) (v : Value) (qs : List α) (p : α) (hx : a.eval x = v)
  (hown : w0.ownsRow base e k v qs.length (qs.flatMap f)) (hb : base ≤ w0.heap.size) (hn : qs.length ≤ 9000) (hy : a.eval y = .slice (some ⟨w0.heap.size,0,none⟩) 1 1) (hw : w = w0.alloc (.cells (f p).toArray e))
  (h : ∀ v' w',w'.ownsRow base e k v' (qs ++ [p]).length ((qs ++ [p]).flatMap f) → Below base w0 w' → K (a.put oi.dst v') w') : oi.wp Tryz.prog a w K Q := by
 subst hw
 obtain ⟨hu,i,z,hi,hz0,hz1,hz2,hz3⟩ := hE
 have hbb : (qs.length + 1) * bytes ≤ 140737488355328 := Nat.le_trans (Nat.mul_le_mul (show qs.length + 1 ≤ 9001 by omega) hby) (by decide)
 obtain ⟨v',w',hrun,r1,r2,_⟩ := run_append_where (P := Tryz.prog) (w0.alloc (.cells (f p).toArray e)) base t oi.type e i z k bytes hu hi hz0 hz1 hz2 hz3 hk v qs.length (qs.flatMap f) (hown.alloc _) ⟨w0.heap.size,0,none⟩ 1 1 (f p) (by rw [hf]; omega) (rec_cells hf w0 e p) (hone p) (by unfold maxLen; omega) hbb (by simp; omega)
 have e1 : [p].flatMap f = f p := by simp
 have hB : Below base w0 w' := ((Below.refl base w0).alloc hb _).trans (row_below r2 (fun g hg => (hown.lt g hg).1) (by simp; omega))
 have hK := h v' w' (by rw [List.length_append,List.flatMap_append,e1]; exact r1) hB
 unfold Oper.wp
 simp [execOp,ho,resolve,invoke,builtin,hx,hy,hrun,Result.andThen]
 exact hK
theorem wpList_app1 {ops : Array Oper} {rest : List Oper} {oi : Oper} {a : Act} {w w0 : World} {Q : Exit → Act → World → Prop} {t e : TypeId} {bytes : Nat} (hgd : oi.guard = none) (hE : ElOk t e k bytes) (hf : ∀ a,(f a).length = k) (hone : ∀ p,∀ u ∈ f p,u.oneCell' = true) (hk : 0 < k) (hby : bytes ≤ 1000)
  (x y : Operand) (ho : oi.op = Op.call { callee := Callee.builtin Builtin.append,args := #[x,y],argTypes := #[t,t] }) (base : Nat) (v : Value) (qs : List α) (p : α) (hx : a.eval x = v)
  (hown : w0.ownsRow base e k v qs.length (qs.flatMap f)) (hb : base ≤ w0.heap.size) (hn : qs.length ≤ 9000) (hy : a.eval y = .slice (some ⟨w0.heap.size,0,none⟩) 1 1) (hw : w = w0.alloc (.cells (f p).toArray e))
  (h : ∀ v' w',w'.ownsRow base e k v' (qs ++ [p]).length ((qs ++ [p]).flatMap f) → Below base w0 w' → wpList Tryz.prog ops Q rest (a.put oi.dst v') w') : wpList Tryz.prog ops Q (oi :: rest) a w :=
 wpList_plain hgd fun _ hK => wp_app1 hE hf hone hk hby x y ho base v qs p hx hown hb hn hy hw fun v' w' h1 h2 => hK _ _ (h v' w' h1 h2)
theorem row_rb (hf : ∀ a,(f a).length = k) {W : World} {base : Nat} {e : TypeId} {v : Value} {L : List α} (h : W.ownsRow base e k v L.length (L.flatMap f)) (hL : 0 < L.length) : ∃ g cap,v = .slice (some ⟨g,0,none⟩) L.length cap ∧ base ≤ g ∧ L.length ≤ cap ∧ RB k f W g L := by
 rcases h.2 with ⟨_,hn⟩ | ⟨g,cap,cur,rfl,hb,hg,hnc,_,hcs,htk⟩
 ·omega
 ·refine ⟨g,cap,rfl,hb,hnc,RB.of_row hg fun i hi j u hu => ?_⟩
  have hj : j < k := by have := (List.getElem?_eq_some_iff.1 hu).1; rw [hf] at this; exact this
  have h1 := fm_get hf L hi j hj
  rw [hu,← htk,List.getElem?_take] at h1
  split at h1
  ·simpa using h1
  ·cases h1
end
end Go.Proofs.YtaphggjakaghjaaGreatDoor
