/-
  What is proved here: what labelRoom and takers of para answer.
  What is proved here: what metric.Check and refuse of para answer.
  What is proved here: what Give of item answers.
-/
import Derived.Test.YtfiekhephkpdjaaGreatDoorG1
import Derived.Test.YtfiekhephkpdjaaGreatDoorG9
import Derived.Test.YtfiekhephkpdjaaGreatDoorG12
import Derived.Test.YtfiekhephkpdjaaGreatDoorG5
import Derived.Test.YtfiekhephkpdjaaGreatDoorG4
namespace Go.Proofs.YtfiekhephkpdjaaGreatDoor
open Go.RowKit Go.Shelf
set_option maxRecDepth 100000
set_option maxHeartbeats 2000000

theorem wVal_big (t : ByteArray) (s : Int) : 0 ≤ wVal t s ∧ wVal t s ≤ 262144 := by
 rcases wErr_cases t s with ⟨_,e,_⟩ | ⟨_,e,_⟩ | ⟨_,e,h1,h2,h3⟩
 ·rw [e]; omega
 ·rw [e]; omega
 ·rw [e]
  have := tw_rng t (s := s) (by omega) h2 t.size
  unfold widthI
  omega
def lbI (a : Pa) : Int := if a.lb.size = 0 then 0 else wVal a.lb a.p.p0 + 4
def tkP (a : Pa) : Tk := ⟨a.p.p4,a.p.p3,lbI a,drV a,a.p.p5,a.p.p14,9223372036854775807⟩
theorem tkP_ok {a : Pa} (h : chkI a = 0) : (tkP a).ok := by
 have hG := good_of h
 have h3 := List.all_eq_true.1 hG.pr (a.p.p3,0,255) (by simp [prB])
 have h4 := List.all_eq_true.1 hG.pr (a.p.p4,0,255) (by simp [prB])
 have h5 := List.all_eq_true.1 hG.pr (a.p.p5,0,255) (by simp [prB])
 simp [bdB] at h3 h4 h5
 have hw := wVal_big a.lb a.p.p0
 have hl : 0 ≤ lbI a ∧ lbI a ≤ 1000000 := by unfold lbI; split <;> omega
 have hd : 0 ≤ drV a ∧ drV a ≤ 1000000 := by
  have := cwI_rng a
  unfold drV; split <;> omega
 exact ⟨⟨by show 0 ≤ a.p.p4; omega,by show a.p.p4 ≤ _; omega⟩,⟨by show 0 ≤ a.p.p3; omega,by show a.p.p3 ≤ _; omega⟩,hl,hd,⟨by show 0 ≤ a.p.p5; omega,by show a.p.p5 ≤ _; omega⟩⟩
theorem lempty (s : ByteArray) : s.toList.isEmpty = decide (s.size = 0) := by
 obtain ⟨⟨l⟩⟩ := s
 rw [ByteArray.toList_eq]
 cases l <;> simp [ByteArray.size]
theorem from90 (r m : Int) (w : World) : Calls Tryz.prog 28 #[.int .i64 r,.int .i64 m] w fun e w' => (∃ v,e = .returned v ∧ ClL w' v r m) ∧ Below w.heap.size w w' := by
 go_enter Tryz.func28,Tryz.ntmps28
 go_wp2_with fail
 go_ret
 exact ⟨⟨_,rfl,⟨_,_,rfl,alloc2_heap w _ _,(Below.heap_alloc _ _ _ (by simp)).trans (World.alloc_heap_new w _)⟩⟩,below2 w _ _⟩
theorem from92 (r : Int) (w : World) : Calls Tryz.prog 30 #[.int .i64 r] w fun e w' => (∃ v,e = .returned v ∧ ClR w' v r) ∧ Below w.heap.size w w' := by
 go_enter Tryz.func30,Tryz.ntmps30
 go_wp2_with fail
 go_ret
 exact ⟨⟨_,rfl,⟨_,rfl,World.alloc_heap_new w _⟩⟩,(Below.refl w.heap.size w).alloc (Nat.le_refl _) _⟩
theorem label91 (a : Pa) (w : World) : Calls Tryz.prog 29 #[paV a] w fun e w' => e = .returned (.int .i64 (lbI a)) ∧ Below w.heap.size w w' := by
 have hB := (Below.refl w.heap.size w).alloc (Nat.le_refl _) (Obj.cells (paC a) 27)
 have hP := PB.new w a
 have c19 := hP.c19
 have c2 := hP.c2
 have hw := Width_any a.lb a.p.p0 (w.alloc (.cells (paC a) 27))
 have hr : Hid (a.lb.size ≠ 0 → -1000000000 ≤ wVal a.lb a.p.p0 ∧ wVal a.lb a.p.p0 ≤ 1000000000) := fun _ => ⟨by have := (wVal_big a.lb a.p.p0).1; omega,by have := (wVal_big a.lb a.p.p0).2; omega⟩
 clear hP
 unfold paV lbI
 generalize hw1 : w.alloc (.cells (paC a) 27) = w1 at *
 by_cases hz : a.lb.size = 0
 ·rw [if_pos hz]
  have e : a.lb.toList.isEmpty = true := by rw [lempty]; exact decide_eq_true hz
  clear hw hr
  go_enter Tryz.func29,Tryz.ntmps29
  go_wp2_with fail
  go_ret
  exact ⟨rfl,hB⟩
 ·rw [if_neg hz]
  obtain ⟨r1,r2⟩ := hr.out hz
  have e : a.lb.toList.isEmpty = false := by rw [lempty]; exact decide_eq_false hz
  clear hr
  generalize wVal a.lb a.p.p0 = x at *
  go_enter Tryz.func29,Tryz.ntmps29
  go_wp2_with (go_at_call 46; refine hw.mono ?_; rintro e w2 ⟨rfl,rfl⟩)
  go_ret
  exact ⟨rfl,hB⟩
structure TkW (B : Nat) (a : Pa) (W : World) : Prop where
 p : PB W B a
theorem TkW.c4 {B : Nat} {a : Pa} {W : World} (h : TkW B a W) : W.cell? ⟨B,6,none⟩ = some (.int .i64 a.p.p4) := h.p.cell rfl
theorem TkW.c3 {B : Nat} {a : Pa} {W : World} (h : TkW B a W) : W.cell? ⟨B,5,none⟩ = some (.int .i64 a.p.p3) := h.p.cell rfl
theorem TkW.c14 {B : Nat} {a : Pa} {W : World} (h : TkW B a W) : W.cell? ⟨B,16,none⟩ = some (.int .i64 a.p.p14) := h.p.cell rfl
theorem TkW.c5 {B : Nat} {a : Pa} {W : World} (h : TkW B a W) : W.cell? ⟨B,7,none⟩ = some (.int .i64 a.p.p5) := h.p.cell rfl
theorem run_build5 (W : World) (a0 b0 a1 b1 a2 b2 a3 b3 b4 : Nat) : (Instr.buildSlice 62 5 #[(0,clL a0 b0),(1,clL a1 b1),(2,clL a2 b2),(3,clL a3 b3),(4,clR b4)]).run Tryz.prog W = .ok (.slice (some ⟨W.heap.size,0,none⟩) 5 5) (W.alloc (.cells #[clL a0 b0,clL a1 b1,clL a2 b2,clL a3 b3,clR b4] 77)) := by
 kernel_rfl
theorem wp_build5 {oi : Oper} {a : Act} {w : World} {K : Act → World → Prop} {Q : Exit → Act → World → Prop} (y0 y1 y2 y3 y4 : Operand) (ho : oi.op = .buildSlice 62 5 #[(0,y0),(1,y1),(2,y2),(3,y3),(4,y4)]) (a0 b0 a1 b1 a2 b2 a3 b3 b4 : Nat)
  (e0 : a.eval y0 = clL a0 b0) (e1 : a.eval y1 = clL a1 b1) (e2 : a.eval y2 = clL a2 b2) (e3 : a.eval y3 = clL a3 b3) (e4 : a.eval y4 = clR b4)
  (h : K (a.put oi.dst (.slice (some ⟨w.heap.size,0,none⟩) 5 5)) (w.alloc (.cells #[clL a0 b0,clL a1 b1,clL a2 b2,clL a3 b3,clR b4] 77))) : oi.wp Tryz.prog a w K Q := by
 have hr := run_build5 w a0 b0 a1 b1 a2 b2 a3 b3 b4
 unfold Oper.wp execOp
 simp only [ho,List.map_toArray,List.map_cons,List.map_nil,e0,e1,e2,e3,e4,Sem.run_bind,Sem.run_pure,Result.andThen_ok,hr]
 exact h
def frp45 (v0 v1 v2 v3 v4 v5 v6 v7 v8 v9 xa xb xc xd xe xf xg xh xi xj xk xl xm xn xo xp xq xr xt xu xv : Value) : Act := { tmps := #[v0,v1,v2,v3,v4,v5,v6,v7,v8,v9,xa,xb,xc,xd,xe,xf,xg,xh,xi,xj,xk,xl,xm,xn,xo,xp,xq,xr,xt,xu,xv],defers := [] }
def opp45_2_0 (ps _p1 _p2 _p3 _p4 _p5 : String) : Oper := ⟨some 10,.fieldAddr 27 (.tmp 1) 2,0,ps,#[],none⟩
def opp45_2_1 (ps _p1 _p2 _p3 _p4 _p5 : String) : Oper := ⟨some 11,.fieldAddr 24 (.tmp 10) 4,0,ps,#[⟨0,.data⟩],none⟩
def opp45_2_2 (ps _p1 _p2 _p3 _p4 _p5 : String) : Oper := ⟨some 12,.load 3 (.tmp 11),3,ps,#[⟨1,.data⟩],none⟩
def opp45_2_3 (_ps p1 _p2 _p3 _p4 _p5 : String) : Oper := ⟨some 13,.call ⟨.value (.func 28),#[.tmp 12,.const (.int .i64 9223372036854775807)],#[3,3]⟩,77,p1,#[⟨2,.data⟩],none⟩
def opp45_2_4 (ps _p1 _p2 _p3 _p4 _p5 : String) : Oper := ⟨some 14,.fieldAddr 27 (.tmp 1) 2,0,ps,#[],none⟩
def opp45_2_5 (ps _p1 _p2 _p3 _p4 _p5 : String) : Oper := ⟨some 15,.fieldAddr 24 (.tmp 14) 3,0,ps,#[⟨4,.data⟩],none⟩
def opp45_2_6 (ps _p1 _p2 _p3 _p4 _p5 : String) : Oper := ⟨some 16,.load 3 (.tmp 15),3,ps,#[⟨5,.data⟩],none⟩
def opp45_2_7 (_ps _p1 p2 _p3 _p4 _p5 : String) : Oper := ⟨some 17,.call ⟨.value (.func 28),#[.tmp 16,.const (.int .i64 1)],#[3,3]⟩,77,p2,#[⟨6,.data⟩,⟨3,.chain⟩],none⟩
def opp45_2_8 (ps _p1 _p2 _p3 _p4 _p5 : String) : Oper := ⟨some 18,.load 27 (.tmp 1),27,ps,#[],none⟩
def opp45_2_9 (_ps _p1 _p2 p3 _p4 _p5 : String) : Oper := ⟨some 19,.call ⟨.value (.func 29),#[.tmp 18],#[27]⟩,3,p3,#[⟨8,.data⟩,⟨7,.chain⟩],none⟩
def opp45_2_10 (_ps _p1 _p2 p3 _p4 _p5 : String) : Oper := ⟨some 20,.call ⟨.value (.func 28),#[.tmp 19,.const (.int .i64 1)],#[3,3]⟩,77,p3,#[⟨9,.data⟩,⟨9,.chain⟩],none⟩
def opp45_2_11 (ps _p1 _p2 _p3 _p4 _p5 : String) : Oper := ⟨some 21,.move (.tmp 3),3,ps,#[],none⟩
def opp45_2_12 (ps _p1 _p2 _p3 _p4 _p5 : String) : Oper := ⟨some 22,.fieldAddr 27 (.tmp 1) 2,0,ps,#[],none⟩
def opp45_2_13 (ps _p1 _p2 _p3 _p4 _p5 : String) : Oper := ⟨some 23,.fieldAddr 24 (.tmp 22) 14,0,ps,#[⟨12,.data⟩],none⟩
def opp45_2_14 (ps _p1 _p2 _p3 _p4 _p5 : String) : Oper := ⟨some 24,.load 3 (.tmp 23),3,ps,#[⟨13,.data⟩],none⟩
def opp45_2_15 (_ps _p1 _p2 _p3 p4 _p5 : String) : Oper := ⟨some 25,.call ⟨.value (.func 28),#[.tmp 21,.tmp 24],#[3,3]⟩,77,p4,#[⟨11,.data⟩,⟨14,.data⟩,⟨10,.chain⟩],none⟩
def opp45_2_16 (ps _p1 _p2 _p3 _p4 _p5 : String) : Oper := ⟨some 26,.fieldAddr 27 (.tmp 1) 2,0,ps,#[],none⟩
def opp45_2_17 (ps _p1 _p2 _p3 _p4 _p5 : String) : Oper := ⟨some 27,.fieldAddr 24 (.tmp 26) 5,0,ps,#[⟨16,.data⟩],none⟩
def opp45_2_18 (ps _p1 _p2 _p3 _p4 _p5 : String) : Oper := ⟨some 28,.load 3 (.tmp 27),3,ps,#[⟨17,.data⟩],none⟩
def opp45_2_19 (_ps _p1 _p2 _p3 _p4 p5 : String) : Oper := ⟨some 29,.call ⟨.value (.func 30),#[.tmp 28],#[3]⟩,77,p5,#[⟨18,.data⟩,⟨15,.chain⟩],none⟩
def opp45_2_20 (ps _p1 _p2 _p3 _p4 _p5 : String) : Oper := ⟨some 30,.buildSlice 62 5 #[(0,.tmp 13),(1,.tmp 17),(2,.tmp 20),(3,.tmp 25),(4,.tmp 29)],62,ps,#[⟨3,.data⟩,⟨7,.data⟩,⟨10,.data⟩,⟨15,.data⟩,⟨19,.data⟩],none⟩
def opp45_2_21 (ps _p1 _p2 _p3 _p4 _p5 : String) : Oper := ⟨some 2,.assign (.tmp 30),62,ps,#[⟨20,.data⟩,⟨19,.chain⟩,⟨0,.phase⟩,⟨1,.phase⟩,⟨2,.phase⟩,⟨3,.phase⟩,⟨4,.phase⟩,⟨5,.phase⟩,⟨6,.phase⟩,⟨7,.phase⟩,⟨8,.phase⟩,⟨9,.phase⟩,⟨10,.phase⟩,⟨11,.phase⟩,⟨12,.phase⟩,⟨13,.phase⟩,⟨14,.phase⟩,⟨15,.phase⟩,⟨16,.phase⟩,⟨17,.phase⟩,⟨18,.phase⟩,⟨19,.phase⟩,⟨20,.phase⟩],none⟩
def opp45_2 (ps p1 p2 p3 p4 p5 : String) : Array Oper := #[opp45_2_0 ps p1 p2 p3 p4 p5,opp45_2_1 ps p1 p2 p3 p4 p5,opp45_2_2 ps p1 p2 p3 p4 p5,opp45_2_3 ps p1 p2 p3 p4 p5,opp45_2_4 ps p1 p2 p3 p4 p5,opp45_2_5 ps p1 p2 p3 p4 p5,opp45_2_6 ps p1 p2 p3 p4 p5,opp45_2_7 ps p1 p2 p3 p4 p5,opp45_2_8 ps p1 p2 p3 p4 p5,opp45_2_9 ps p1 p2 p3 p4 p5,opp45_2_10 ps p1 p2 p3 p4 p5,opp45_2_11 ps p1 p2 p3 p4 p5,opp45_2_12 ps p1 p2 p3 p4 p5,opp45_2_13 ps p1 p2 p3 p4 p5,opp45_2_14 ps p1 p2 p3 p4 p5,opp45_2_15 ps p1 p2 p3 p4 p5,opp45_2_16 ps p1 p2 p3 p4 p5,opp45_2_17 ps p1 p2 p3 p4 p5,opp45_2_18 ps p1 p2 p3 p4 p5,opp45_2_19 ps p1 p2 p3 p4 p5,opp45_2_20 ps p1 p2 p3 p4 p5,opp45_2_21 ps p1 p2 p3 p4 p5]

theorem tk_r2 (Q : Exit → Act → World → Prop) (hQ : ∀ c x (n : Nat) v w,Q (.panic c) (x.put (some n) v) w → Q (.panic c) x w) (id : Nat) (ps p1 p2 p3 p4 p5 : String) {v0 v2 v4 v5 v6 v7 v8 v9 xa xb xc xd xe xf xg xh xi xj xk xl xm xn xo xp xq xr xt xu xv : Value} (z : World) (B : Nat) (a : Pa) (c : Int) (w : World) (hS : TkW B a (World.drew w))
  (hz0 : Below z.heap.size z (World.drew w))
  (hq : ∀ u0 u1 u2 u3 u4 u w',TkAt w' u ⟨a.p.p4,a.p.p3,lbI a,c,a.p.p5,a.p.p14,9223372036854775807⟩ → Below z.heap.size z w' → Q .normal (frp45 v0 (.pointer (some ⟨B,0,none⟩)) u (.int .i64 c) v4 v5 v6 v7 v8 v9 (.pointer (some ⟨B,2,none⟩)) (.pointer (some ⟨B,6,none⟩)) (.int .i64 a.p.p4) u0 (.pointer (some ⟨B,2,none⟩)) (.pointer (some ⟨B,5,none⟩)) (.int .i64 a.p.p3) u1 (.agg (paC a)) (.int .i64 (lbI a)) u2 (.int .i64 c) (.pointer (some ⟨B,2,none⟩)) (.pointer (some ⟨B,16,none⟩)) (.int .i64 a.p.p14) u3 (.pointer (some ⟨B,2,none⟩)) (.pointer (some ⟨B,7,none⟩)) (.int .i64 a.p.p5) u4 u) w') :
  (Code.region id (opp45_2 ps p1 p2 p3 p4 p5) true).wp Tryz.prog Q (frp45 v0 (.pointer (some ⟨B,0,none⟩)) v2 (.int .i64 c) v4 v5 v6 v7 v8 v9 xa xb xc xd xe xf xg xh xi xj xk xl xm xn xo xp xq xr xt xu xv) w := by
 refine wp_region_held (S := TkW B a) (by kernel_rfl) ?_
 change wpAnyH _ _ _ _ _ 22 _ _ (World.drew w)
 refine take_r 0 ⟨some 10,.fieldAddr 27 (.tmp 1) 2,0,ps,#[],none⟩ (.pointer (some ⟨B,2,none⟩)) hQ (fun w hS => by unfold frp45; go_simp) hS ?_
 refine take_r 1 ⟨some 11,.fieldAddr 24 (.tmp 10) 4,0,ps,#[⟨0,.data⟩],none⟩ (.pointer (some ⟨B,6,none⟩)) hQ (fun w hS => by unfold frp45; go_simp) hS ?_
 refine take_r 2 ⟨some 12,.load 3 (.tmp 11),3,ps,#[⟨1,.data⟩],none⟩ (.int .i64 a.p.p4) hQ (fun w hS => by have e := hS.c4; unfold frp45; go_simp) hS ?_
 refine take_r 4 ⟨some 14,.fieldAddr 27 (.tmp 1) 2,0,ps,#[],none⟩ (.pointer (some ⟨B,2,none⟩)) hQ (fun w hS => by unfold frp45; go_simp) hS ?_
 refine take_r 5 ⟨some 15,.fieldAddr 24 (.tmp 14) 3,0,ps,#[⟨4,.data⟩],none⟩ (.pointer (some ⟨B,5,none⟩)) hQ (fun w hS => by unfold frp45; go_simp) hS ?_
 refine take_k 6 (opp45_2_6 ps p1 p2 p3 p4 p5) (.int .i64 a.p.p3) (frp45 v0 (.pointer (some ⟨B,0,none⟩)) v2 (.int .i64 c) v4 v5 v6 v7 v8 v9 (.pointer (some ⟨B,2,none⟩)) (.pointer (some ⟨B,6,none⟩)) (.int .i64 a.p.p4) xd (.pointer (some ⟨B,2,none⟩)) (.pointer (some ⟨B,5,none⟩)) (.int .i64 a.p.p3) xh xi xj xk xl xm xn xo xp xq xr xt xu xv) hQ (fun w hS => by have e := hS.c3; unfold frp45 opp45_2_6; go_simp) hS ?_
 refine take_r 8 ⟨some 18,.load 27 (.tmp 1),27,ps,#[],none⟩ (.agg (paC a)) hQ (fun w hS => load_pa hS.p rfl rfl) hS ?_
 refine take_r 11 ⟨some 21,.move (.tmp 3),3,ps,#[],none⟩ (.int .i64 c) hQ (fun w _ => by kernel_rfl) hS ?_
 refine take_r 12 ⟨some 22,.fieldAddr 27 (.tmp 1) 2,0,ps,#[],none⟩ (.pointer (some ⟨B,2,none⟩)) hQ (fun w hS => by unfold frp45; go_simp) hS ?_
 refine take_r 13 ⟨some 23,.fieldAddr 24 (.tmp 22) 14,0,ps,#[⟨12,.data⟩],none⟩ (.pointer (some ⟨B,16,none⟩)) hQ (fun w hS => by unfold frp45; go_simp) hS ?_
 refine take_r 14 ⟨some 24,.load 3 (.tmp 23),3,ps,#[⟨13,.data⟩],none⟩ (.int .i64 a.p.p14) hQ (fun w hS => by have e := hS.c14; unfold frp45; go_simp) hS ?_
 refine take_k 16 (opp45_2_16 ps p1 p2 p3 p4 p5) (.pointer (some ⟨B,2,none⟩)) (frp45 v0 (.pointer (some ⟨B,0,none⟩)) v2 (.int .i64 c) v4 v5 v6 v7 v8 v9 (.pointer (some ⟨B,2,none⟩)) (.pointer (some ⟨B,6,none⟩)) (.int .i64 a.p.p4) xd (.pointer (some ⟨B,2,none⟩)) (.pointer (some ⟨B,5,none⟩)) (.int .i64 a.p.p3) xh (.agg (paC a)) xj xk (.int .i64 c) (.pointer (some ⟨B,2,none⟩)) (.pointer (some ⟨B,16,none⟩)) (.int .i64 a.p.p14) xp (.pointer (some ⟨B,2,none⟩)) xr xt xu xv) hQ (fun w hS => by unfold frp45 opp45_2_16; go_simp) hS ?_
 refine take_r 17 ⟨some 27,.fieldAddr 24 (.tmp 26) 5,0,ps,#[⟨16,.data⟩],none⟩ (.pointer (some ⟨B,7,none⟩)) hQ (fun w hS => by unfold frp45; go_simp) hS ?_
 refine take_r 18 ⟨some 28,.load 3 (.tmp 27),3,ps,#[⟨17,.data⟩],none⟩ (.int .i64 a.p.p5) hQ (fun w hS => by have e := hS.c5; unfold frp45; go_simp) hS ?_
 refine want_k 3 (opp45_2_3 ps p1 p2 p3 p4 p5) fun K hK => ?_
 unfold frp45 opp45_2_3
 go_simp
 refine (from90 a.p.p4 9223372036854775807 _).mono ?_
 rintro e w1 ⟨⟨u0,rfl,f0⟩,hb1⟩
 have hS1 : TkW B a w1 := ⟨hS.p.below hb1 hS.p.lt⟩
 have hz1 := hz0.trans (hb1.mono hz0.size)
 refine hK _ _ hS1 (cast_h (frp45 v0 (.pointer (some ⟨B,0,none⟩)) v2 (.int .i64 c) v4 v5 v6 v7 v8 v9 (.pointer (some ⟨B,2,none⟩)) (.pointer (some ⟨B,6,none⟩)) (.int .i64 a.p.p4) u0 (.pointer (some ⟨B,2,none⟩)) (.pointer (some ⟨B,5,none⟩)) (.int .i64 a.p.p3) xh (.agg (paC a)) xj xk (.int .i64 c) (.pointer (some ⟨B,2,none⟩)) (.pointer (some ⟨B,16,none⟩)) (.int .i64 a.p.p14) xp (.pointer (some ⟨B,2,none⟩)) (.pointer (some ⟨B,7,none⟩)) (.int .i64 a.p.p5) xu xv) (by kernel_rfl) ?_)
 clear hK K
 refine want_k 7 (opp45_2_7 ps p1 p2 p3 p4 p5) fun K hK => ?_
 unfold frp45 opp45_2_7
 go_simp
 refine (from90 a.p.p3 1 _).mono ?_
 rintro e w2 ⟨⟨u1,rfl,f1⟩,hb2⟩
 have hS2 : TkW B a w2 := ⟨hS1.p.below hb2 hS1.p.lt⟩
 have hz2 := hz1.trans (hb2.mono hz1.size)
 replace f0 := f0.below hb2 (Nat.le_refl _)
 refine hK _ _ hS2 (cast_h (frp45 v0 (.pointer (some ⟨B,0,none⟩)) v2 (.int .i64 c) v4 v5 v6 v7 v8 v9 (.pointer (some ⟨B,2,none⟩)) (.pointer (some ⟨B,6,none⟩)) (.int .i64 a.p.p4) u0 (.pointer (some ⟨B,2,none⟩)) (.pointer (some ⟨B,5,none⟩)) (.int .i64 a.p.p3) u1 (.agg (paC a)) xj xk (.int .i64 c) (.pointer (some ⟨B,2,none⟩)) (.pointer (some ⟨B,16,none⟩)) (.int .i64 a.p.p14) xp (.pointer (some ⟨B,2,none⟩)) (.pointer (some ⟨B,7,none⟩)) (.int .i64 a.p.p5) xu xv) (by kernel_rfl) ?_)
 clear hK K
 refine want_k 9 (opp45_2_9 ps p1 p2 p3 p4 p5) fun K hK => ?_
 unfold frp45 opp45_2_9
 go_simp
 refine (label91 a _).mono ?_
 rintro e w3 ⟨rfl,hb3⟩
 have hS3 : TkW B a w3 := ⟨hS2.p.below hb3 hS2.p.lt⟩
 have hz3 := hz2.trans (hb3.mono hz2.size)
 replace f0 := f0.below hb3 (Nat.le_refl _)
 replace f1 := f1.below hb3 (Nat.le_refl _)
 refine hK _ _ hS3 (cast_h (frp45 v0 (.pointer (some ⟨B,0,none⟩)) v2 (.int .i64 c) v4 v5 v6 v7 v8 v9 (.pointer (some ⟨B,2,none⟩)) (.pointer (some ⟨B,6,none⟩)) (.int .i64 a.p.p4) u0 (.pointer (some ⟨B,2,none⟩)) (.pointer (some ⟨B,5,none⟩)) (.int .i64 a.p.p3) u1 (.agg (paC a)) (.int .i64 (lbI a)) xk (.int .i64 c) (.pointer (some ⟨B,2,none⟩)) (.pointer (some ⟨B,16,none⟩)) (.int .i64 a.p.p14) xp (.pointer (some ⟨B,2,none⟩)) (.pointer (some ⟨B,7,none⟩)) (.int .i64 a.p.p5) xu xv) (by kernel_rfl) ?_)
 clear hK K
 refine want_k 10 (opp45_2_10 ps p1 p2 p3 p4 p5) fun K hK => ?_
 unfold frp45 opp45_2_10
 go_simp
 refine (from90 (lbI a) 1 _).mono ?_
 rintro e w4 ⟨⟨u2,rfl,f2⟩,hb4⟩
 have hS4 : TkW B a w4 := ⟨hS3.p.below hb4 hS3.p.lt⟩
 have hz4 := hz3.trans (hb4.mono hz3.size)
 replace f0 := f0.below hb4 (Nat.le_refl _)
 replace f1 := f1.below hb4 (Nat.le_refl _)
 refine hK _ _ hS4 (cast_h (frp45 v0 (.pointer (some ⟨B,0,none⟩)) v2 (.int .i64 c) v4 v5 v6 v7 v8 v9 (.pointer (some ⟨B,2,none⟩)) (.pointer (some ⟨B,6,none⟩)) (.int .i64 a.p.p4) u0 (.pointer (some ⟨B,2,none⟩)) (.pointer (some ⟨B,5,none⟩)) (.int .i64 a.p.p3) u1 (.agg (paC a)) (.int .i64 (lbI a)) u2 (.int .i64 c) (.pointer (some ⟨B,2,none⟩)) (.pointer (some ⟨B,16,none⟩)) (.int .i64 a.p.p14) xp (.pointer (some ⟨B,2,none⟩)) (.pointer (some ⟨B,7,none⟩)) (.int .i64 a.p.p5) xu xv) (by kernel_rfl) ?_)
 clear hK K
 refine want_k 15 (opp45_2_15 ps p1 p2 p3 p4 p5) fun K hK => ?_
 unfold frp45 opp45_2_15
 go_simp
 refine (from90 c a.p.p14 _).mono ?_
 rintro e w5 ⟨⟨u3,rfl,f3⟩,hb5⟩
 have hS5 : TkW B a w5 := ⟨hS4.p.below hb5 hS4.p.lt⟩
 have hz5 := hz4.trans (hb5.mono hz4.size)
 replace f0 := f0.below hb5 (Nat.le_refl _)
 replace f1 := f1.below hb5 (Nat.le_refl _)
 replace f2 := f2.below hb5 (Nat.le_refl _)
 refine hK _ _ hS5 (cast_h (frp45 v0 (.pointer (some ⟨B,0,none⟩)) v2 (.int .i64 c) v4 v5 v6 v7 v8 v9 (.pointer (some ⟨B,2,none⟩)) (.pointer (some ⟨B,6,none⟩)) (.int .i64 a.p.p4) u0 (.pointer (some ⟨B,2,none⟩)) (.pointer (some ⟨B,5,none⟩)) (.int .i64 a.p.p3) u1 (.agg (paC a)) (.int .i64 (lbI a)) u2 (.int .i64 c) (.pointer (some ⟨B,2,none⟩)) (.pointer (some ⟨B,16,none⟩)) (.int .i64 a.p.p14) u3 (.pointer (some ⟨B,2,none⟩)) (.pointer (some ⟨B,7,none⟩)) (.int .i64 a.p.p5) xu xv) (by kernel_rfl) ?_)
 clear hK K
 refine want_k 19 (opp45_2_19 ps p1 p2 p3 p4 p5) fun K hK => ?_
 unfold frp45 opp45_2_19
 go_simp
 refine (from92 a.p.p5 _).mono ?_
 rintro e w6 ⟨⟨u4,rfl,f4⟩,hb6⟩
 have hS6 : TkW B a w6 := ⟨hS5.p.below hb6 hS5.p.lt⟩
 have hz6 := hz5.trans (hb6.mono hz5.size)
 replace f0 := f0.below hb6 (Nat.le_refl _)
 replace f1 := f1.below hb6 (Nat.le_refl _)
 replace f2 := f2.below hb6 (Nat.le_refl _)
 replace f3 := f3.below hb6 (Nat.le_refl _)
 refine hK _ _ hS6 (cast_h (frp45 v0 (.pointer (some ⟨B,0,none⟩)) v2 (.int .i64 c) v4 v5 v6 v7 v8 v9 (.pointer (some ⟨B,2,none⟩)) (.pointer (some ⟨B,6,none⟩)) (.int .i64 a.p.p4) u0 (.pointer (some ⟨B,2,none⟩)) (.pointer (some ⟨B,5,none⟩)) (.int .i64 a.p.p3) u1 (.agg (paC a)) (.int .i64 (lbI a)) u2 (.int .i64 c) (.pointer (some ⟨B,2,none⟩)) (.pointer (some ⟨B,16,none⟩)) (.int .i64 a.p.p14) u3 (.pointer (some ⟨B,2,none⟩)) (.pointer (some ⟨B,7,none⟩)) (.int .i64 a.p.p5) u4 xv) (by kernel_rfl) ?_)
 clear hK K
 refine want_k 20 (opp45_2_20 ps p1 p2 p3 p4 p5) fun K hK => ?_
 obtain ⟨a0,b0,q0,k0,k1⟩ := f0.ex
 obtain ⟨a1,b1,q1,k2,k3⟩ := f1.ex
 obtain ⟨a2,b2,q2,k4,k5⟩ := f2.ex
 obtain ⟨a3,b3,q3,k6,k7⟩ := f3.ex
 obtain ⟨b4,q4,k8⟩ := f4.ex
 refine wp_build5 (.tmp 13) (.tmp 17) (.tmp 20) (.tmp 25) (.tmp 29) (by unfold opp45_2_20; rfl) a0 b0 a1 b1 a2 b2 a3 b3 b4 q0 q1 q2 q3 q4 ?_
 have hb7 := (Below.refl w6.heap.size w6).alloc (Nat.le_refl _) (.cells #[clL a0 b0,clL a1 b1,clL a2 b2,clL a3 b3,clR b4] 77)
 have hS7 : TkW B a (w6.alloc (.cells #[clL a0 b0,clL a1 b1,clL a2 b2,clL a3 b3,clR b4] 77)) := ⟨hS6.p.below hb7 hS6.p.lt⟩
 have hT : TkAt (w6.alloc (.cells #[clL a0 b0,clL a1 b1,clL a2 b2,clL a3 b3,clR b4] 77)) (.slice (some ⟨w6.heap.size,0,none⟩) 5 5) ⟨a.p.p4,a.p.p3,lbI a,c,a.p.p5,a.p.p14,9223372036854775807⟩ := ⟨_,_,_,_,_,_,rfl,World.alloc_heap_new _ _,⟨_,_,rfl,k0.below hb7 (Nat.le_refl _),k1.below hb7 (Nat.le_refl _)⟩,⟨_,_,rfl,k2.below hb7 (Nat.le_refl _),k3.below hb7 (Nat.le_refl _)⟩,⟨_,_,rfl,k4.below hb7 (Nat.le_refl _),k5.below hb7 (Nat.le_refl _)⟩,⟨_,_,rfl,k6.below hb7 (Nat.le_refl _),k7.below hb7 (Nat.le_refl _)⟩,⟨_,rfl,k8.below hb7 (Nat.le_refl _)⟩⟩
 have hz7 := hz6.trans (hb7.mono hz6.size)
 refine hK _ _ hS7 (cast_h (frp45 v0 (.pointer (some ⟨B,0,none⟩)) v2 (.int .i64 c) v4 v5 v6 v7 v8 v9 (.pointer (some ⟨B,2,none⟩)) (.pointer (some ⟨B,6,none⟩)) (.int .i64 a.p.p4) u0 (.pointer (some ⟨B,2,none⟩)) (.pointer (some ⟨B,5,none⟩)) (.int .i64 a.p.p3) u1 (.agg (paC a)) (.int .i64 (lbI a)) u2 (.int .i64 c) (.pointer (some ⟨B,2,none⟩)) (.pointer (some ⟨B,16,none⟩)) (.int .i64 a.p.p14) u3 (.pointer (some ⟨B,2,none⟩)) (.pointer (some ⟨B,7,none⟩)) (.int .i64 a.p.p5) u4 (.slice (some ⟨w6.heap.size,0,none⟩) 5 5)) (by kernel_rfl) ?_)
 clear hK K
 refine take_r 21 ⟨some 2,.assign (.tmp 30),62,ps,#[⟨20,.data⟩,⟨19,.chain⟩,⟨0,.phase⟩,⟨1,.phase⟩,⟨2,.phase⟩,⟨3,.phase⟩,⟨4,.phase⟩,⟨5,.phase⟩,⟨6,.phase⟩,⟨7,.phase⟩,⟨8,.phase⟩,⟨9,.phase⟩,⟨10,.phase⟩,⟨11,.phase⟩,⟨12,.phase⟩,⟨13,.phase⟩,⟨14,.phase⟩,⟨15,.phase⟩,⟨16,.phase⟩,⟨17,.phase⟩,⟨18,.phase⟩,⟨19,.phase⟩,⟨20,.phase⟩],none⟩ (.slice (some ⟨w6.heap.size,0,none⟩) 5 5) hQ (fun w _ => by kernel_rfl) hS7 ?_
 exact wpAnyH_done (by kernel_rfl) (hq _ _ _ _ _ _ _ hT hz7) _
theorem takers_any (a : Pa) (w : World) (hA : PaAt w a) : Calls Tryz.prog 18 #[paV a] w fun e w' => (∃ v,e = .returned v ∧ TkAt w' v (tkP a)) ∧ Below w.heap.size w w' := by
 have hB := (Below.refl w.heap.size w).alloc (Nat.le_refl _) (Obj.cells (paC a) 27)
 have hP := PB.new w a
 have hd := drop_any a _ (hA.below hB (Nat.le_refl _))
 unfold tkP
 generalize drV a = c at *
 unfold paV at hd ⊢
 have hBh : Hid (Below w.heap.size w (w.alloc (.cells (paC a) 27))) := hB
 clear hB hA
 generalize hw1 : w.alloc (.cells (paC a) 27) = w1 at *
 go_enter Tryz.func18,Tryz.ntmps18
 go_wp2_with (first | (refine wpList_load_row rfl 27 _ rfl w.heap.size rfl 27 _ (0,0) _ hP.row Tryz.underlying27 rfl (info34 a) ?_) | (go_at_call 27; refine hd.mono ?_; rintro e w2 ⟨rfl,hb2⟩))
 refine tk_r2 _ (fun _ _ _ _ _ h => h) _ _ _ _ _ _ _ w w.heap.size a c w2 ⟨⟨(hP.below hb2 hP.lt).row⟩⟩ (hBh.out.trans (hb2.mono hBh.out.size)).drew ?_
 intro u0 u1 u2 u3 u4 u w3 hT hz
 unfold frp45
 go_wp2_with fail
 go_ret
 exact ⟨⟨_,rfl,hT⟩,hz⟩
end Go.Proofs.YtfiekhephkpdjaaGreatDoor

namespace Go.Proofs.YtfiekhephkpdjaaGreatDoor
open Go.RowKit Go.Shelf
set_option maxRecDepth 100000
set_option maxHeartbeats 2000000

theorem results_tct {P : Program} {fn : Func} {u p v : Tmp} {ty : TypeId} (h : fn.results = #[.tmp u,.cell p ty,.tmp v]) (tmps : Array Value) (w : World) (g : Nat) (t : TypeId) (cs : Array Value) (fr : Nat × Nat) (d : TypeDesc)
  (hp : tmps.getD p undef = .pointer (some ⟨g,0,none⟩)) (hg : w.heap[g]? = some (.cells cs t fr))
  (hu : P.underlying ty = some d) (hd : (match d with | .struct _ | .array _ _ => true | _ => false) = true) (hi : (P.info? ty).map (·.size) = some cs.size) :
  (results fn tmps).run P w = .ok (.tuple #[tmps.getD u undef,.agg cs,tmps.getD v undef]) w := by
 have hp' : tmps[p]?.getD undef = .pointer (some ⟨g,0,none⟩) := by simpa using hp
 simp [results,h,hp',asAddr,run_loadVar_row w g t ty cs fr d hg hu hd hi,Result.andThen]
theorem check_any (a : Pa) (w : World) (hA : PaAt w a) : Calls Tryz.prog 25 #[paV a] w fun e w' => e = .returned (.int .i64 (chkI a)) ∧ Below w.heap.size w w' := by
 have hB := (Below.refl w.heap.size w).alloc (Nat.le_refl _) (Obj.cells (paC a) 27)
 have hP := PB.new w a
 have hA1 := hA.below hB (Nat.le_refl _)
 have hs := msplit_any a _ hA1
 unfold paV at hs ⊢
 generalize hw1 : w.alloc (.cells (paC a) 27) = w1 at *
 go_enter Tryz.func25,Tryz.ntmps25
 go_wp2_with (refine wpList_load_row rfl 27 _ rfl w.heap.size rfl 27 _ (0,0) _ hP.row Tryz.underlying27 rfl (info34 a) ?_)
 refine hs.mono ?_
 rintro e w2 ⟨⟨v,rfl,_⟩,hb2⟩
 have hB2 := hB.trans (hb2.mono hB.size)
 go_wp2_with fail
 go_ret
 exact ⟨rfl,hB2⟩
def paE (a : Pa) (ss : List Sl) (r : Sl) : Int := if chkI a ≠ 0 then chkI a else ckS ss r
theorem paE_ok {a : Pa} {ss : List Sl} {r : Sl} (h : paE a ss r = 0) : chkI a = 0 ∧ ckS ss r = 0 := by
 unfold paE at h
 split at h
 ·contradiction
 ·rename_i h1
  exact ⟨Decidable.not_not.1 h1,h⟩
theorem refuse44 (a : Pa) (v : Value) (ss : List Sl) (r : Sl) (hl : ss.length ≤ 9223372036854775807) (w : World) (hA : PaAt w a) (hV : SlsAt w v ss) :
  Calls Tryz.prog 17 #[paV a,v,.agg (slL r).toArray] w fun e w' => e = .returned (.int .i64 (paE a ss r)) ∧ Below w.heap.size w w' := by
 have hB := below2 w (Obj.cells (paC a) 27) (.cells #[.int .i64 r.x,.int .i64 r.w] 32)
 have hP : PB ((w.alloc (.cells (paC a) 27)).alloc (.cells #[.int .i64 r.x,.int .i64 r.w] 32)) w.heap.size a := ⟨(Below.heap_alloc _ _ _ (by simp)).trans (World.alloc_heap_new w _)⟩
 have hx : ((w.alloc (.cells (paC a) 27)).alloc (.cells #[.int .i64 r.x,.int .i64 r.w] 32)).heap[w.heap.size + 1]? = some (.cells #[.int .i64 r.x,.int .i64 r.w] 32 (0,0)) := alloc2_heap w _ _
 have hc := check_any a _ (hA.below hB (Nat.le_refl _))
 have hV2 := hV.below hB (Nat.le_refl _)
 obtain ⟨va,vc,rfl,-⟩ := hV.ex
 have hBh : Hid (Below w.heap.size w ((w.alloc (.cells (paC a) 27)).alloc (.cells #[.int .i64 r.x,.int .i64 r.w] 32))) := hB
 have hV2h : Hid (SlsAt ((w.alloc (.cells (paC a) 27)).alloc (.cells #[.int .i64 r.x,.int .i64 r.w] 32)) (.slice va ss.length vc) ss) := hV2
 clear hV hV2 hA hB
 unfold paV at hc ⊢
 show Calls Tryz.prog 17 #[.agg (paC a),.slice va ss.length vc,.agg #[.int .i64 r.x,.int .i64 r.w]] w _
 generalize hwz : (w.alloc (.cells (paC a) 27)).alloc (.cells #[.int .i64 r.x,.int .i64 r.w] 32) = wz at *
 by_cases hk : chkI a = 0
 ·have e : paE a ss r = ckS ss r := by unfold paE; rw [if_neg (by rw [hk]; exact fun h => h rfl)]
  rw [hk] at hc
  rw [e]
  have hfc : Hid (∀ W,Below wz.heap.size wz W → Calls Tryz.prog 26 #[.slice va ss.length vc,.agg #[.int .i64 r.x,.int .i64 r.w]] W fun e w' => e = .returned (.int .i64 (ckS ss r)) ∧ Below W.heap.size W w') := fun W hW => fcheck_any _ ss r hl W (hV2h.out.below hW (Nat.le_refl _))
  clear e hk hV2h
  generalize ckS ss r = k at *
  go_enter Tryz.func17,Tryz.ntmps17
  go_wp2_with (first | (refine wpList_load_row rfl 27 _ rfl w.heap.size rfl 27 _ (0,0) _ hP.row Tryz.underlying27 rfl (info34 a) ?_) | (go_at_call 25; refine hc.mono ?_; rintro e w2 ⟨rfl,hb2⟩; have hx2 : w2.heap[w.heap.size + 1]? = some (.cells #[.int .i64 r.x,.int .i64 r.w] 32 (0,0)) := (hb2.block _ (Array.getElem?_eq_some_iff.1 hx).1).trans hx; have hb2h : Hid (Below wz.heap.size wz w2) := hb2; clear hb2) | (refine wpList_load_row rfl 32 _ rfl (w.heap.size + 1) rfl 32 _ (0,0) _ hx2 Tryz.underlying32 rfl (info25 _ _) ?_) | (go_at_call 26; refine (hfc.out w2 hb2h.out).mono ?_; rintro e w3 ⟨rfl,hb3⟩))
  go_ret
  exact ⟨rfl,(hBh.out.trans (hb2h.out.mono hBh.out.size)).trans (hb3.mono (Nat.le_trans hBh.out.size hb2h.out.size))⟩
 ·have e : paE a ss r = chkI a := by unfold paE; rw [if_pos hk]
  rw [e]
  have hk' : (chkI a == 0) = false := by simpa using hk
  clear e
  generalize chkI a = k at *
  go_enter Tryz.func17,Tryz.ntmps17
  go_wp2_with (first | (refine wpList_load_row rfl 27 _ rfl w.heap.size rfl 27 _ (0,0) _ hP.row Tryz.underlying27 rfl (info34 a) ?_) | (go_at_call 25; refine hc.mono ?_; rintro e w2 ⟨rfl,hb2⟩))
  go_ret
  exact ⟨rfl,hBh.out.trans (hb2.mono hBh.out.size)⟩
end Go.Proofs.YtfiekhephkpdjaaGreatDoor

namespace Go.Proofs.YtfiekhephkpdjaaGreatDoor
open Go.RowKit Go.Shelf
set_option maxRecDepth 100000
set_option maxHeartbeats 4000000
def suS (l : List It) (a : Nat) : Nat → Int
 | 0 => 0
 | k + 1 => suS l a k + (itAt l (a + k)).s
def suH (l : List It) (a : Nat) : Nat → Int
 | 0 => 0
 | k + 1 => suH l a k + (itAt l (a + k)).h
def giS (l : List It) (a b : Int) : Int := if rfL l a b = 0 then suS l a.toNat (shN l a.toNat (b.toNat - a.toNat)) else 0
def giH (l : List It) (a b : Int) : Int := if rfL l a b = 0 then suH l a.toNat (shN l a.toNat (b.toNat - a.toNat)) else 0
theorem su_rng {l : List It} (h : ckL l = 0) {a : Nat} : ∀ k,a + k ≤ l.length → (0 ≤ suS l a k ∧ suS l a k ≤ 4095 * (k : Int)) ∧ 0 ≤ suH l a k ∧ suH l a k ≤ 4095 * (k : Int)
 | 0,_ => by simp [suS,suH]
 | k + 1,hk => by
  have ih := su_rng h k (a := a) (by omega)
  have hi : a + k < l.length := by omega
  have := ck_at h hi
  unfold okP at this
  have e : suS l a (k + 1) = suS l a k + l[a + k].s := by show _ + (itAt l (a + k)).s = _; rw [itAt_is hi]
  have e' : suH l a (k + 1) = suH l a k + l[a + k].h := by show _ + (itAt l (a + k)).h = _; rw [itAt_is hi]
  rw [e,e']; omega
theorem give_any (v : Value) (l : List It) (x y : Int) (w : World) (hS : ItsAt w v l) :
  Calls Tryz.prog 24 #[v,.int .i64 x,.int .i64 y] w fun e w' => e = .returned (.tuple #[.int .i64 (giS l x y),.int .i64 (giH l x y),.int .i64 (rfL l x y)]) ∧ Below w.heap.size w w' := by
 have hc : Hid (Calls Tryz.prog 38 #[v,.int .i64 x,.int .i64 y] w fun e w' => e = .returned (.int .i64 (rfL l x y)) ∧ Below w.heap.size w w') := irefuse_any v l x y w hS
 obtain ⟨a,cap,rfl,-⟩ := hS.ex
 have hle := hS.le _ _ _ rfl
 have hSh : Hid (ItsAt w (.slice a l.length cap) l) := hS
 clear hS
 unfold giS giH
 by_cases h0 : rfL l x y = 0
 ·rw [h0] at hc
  rw [if_pos h0,if_pos h0,h0]
  obtain ⟨h1,h2,h3,h4⟩ := rf_ok h0
  obtain ⟨A,rfl⟩ : ∃ i : Nat,x = i := ⟨x.toNat,by omega⟩
  obtain ⟨E,rfl⟩ : ∃ i : Nat,y = i := ⟨y.toNat,by omega⟩
  rw [Int.toNat_natCast,Int.toNat_natCast]
  have h8 : (l.length : Int) ≤ 8192 := by have := ck_len h1; omega
  have hck : Hid (ckL l = 0) := h1
  have hAE : A ≤ E := by omega
  have hEl : E ≤ l.length := by omega
  clear h0 h1 h2 h3 h4
  obtain ⟨m,hm⟩ : ∃ m,shN l A (E - A) = m := ⟨_,rfl⟩
  have hmle : m ≤ E - A := by rw [← hm]; exact shN_le _ _ _
  have hsl : Hid (∀ W,Below w.heap.size w W → ∃ a',(Instr.slice 48 (.slice a l.length cap) (some (.int .i64 (A : Int))) (some (.int .i64 (E : Int))) none).run Tryz.prog W = .ok (.slice a' (E - A) (cap - A)) W ∧ Calls Tryz.prog 39 #[.slice a' (E - A) (cap - A)] W fun e w' => (∃ a2 cap2,e = .returned (.slice a2 m cap2) ∧ ItsAt W (.slice a2 m cap2) ((subL l A E).take m)) ∧ w' = W) := fun W hB => by
   obtain ⟨a',hr,ha'⟩ := slice29 a l.length cap A E W hAE (by omega)
   refine ⟨a',hr,?_⟩
   have hI := sub_its (hSh.out.below hB (Nat.le_refl _)) hAE hEl ha'
   have hc := shown_any _ (subL l A E) (by rw [sub_len hEl]; omega) W hI
   rw [sub_len hEl,shN_sub hEl _ (by omega),hm] at hc
   exact hc
  have hat : Hid (∀ W a2 cap2,ItsAt W (.slice a2 m cap2) ((subL l A E).take m) → ∀ i,i < m → ∃ b o,a2 = some ⟨b,o,none⟩ ∧ ∀ W',Below W.heap.size W W' → ItAt W b (o + i * 8) (itAt l (A + i)) W') := fun W a2 cap2 hI i hi => by
   obtain ⟨hlt,he⟩ := line_at hEl hAE (i := i) (by rw [hm]; exact hi)
   rw [hm] at he
   obtain ⟨hil,he'⟩ := List.getElem?_eq_some_iff.1 he
   obtain ⟨b,o,e,_,h⟩ := its_at hI hil
   rw [he'] at h
   refine ⟨b,o,e,fun W' hW => ?_⟩
   rw [itAt_is hlt]
   exact h W' hW
  have hrg : Hid (∀ k,k ≤ m → (0 ≤ suS l A k ∧ suS l A k ≤ 4095 * (k : Int)) ∧ 0 ≤ suH l A k ∧ suH l A k ≤ 4095 * (k : Int)) := fun k hk => su_rng hck.out k (by omega)
  have hgo : Hid (∀ k,k < m → okP (itAt l (A + k))) := fun k hk => by
   rw [itAt_is (show A + k < l.length by omega)]
   exact ck_at hck.out (by omega)
  rw [hm]
  clear hm hck hSh
  have hA' : (A : Int) ≤ E := by omega
  have hE' : (E : Int) ≤ cap := by omega
  go_enter Tryz.func24,Tryz.ntmps24
  go_wp2_with (first | (go_at_call 38; refine hc.out.mono ?_; rintro e w1 ⟨rfl,hb1⟩; obtain ⟨a1,hs1,hcs⟩ := hsl.out _ hb1) | (go_at_call 39; refine hcs.mono ?_; rintro e w' ⟨⟨a2,cap2,rfl,hI⟩,hww⟩; subst w'))
  have hat2 := hat.out _ _ _ hI
  have hat3 : Hid (∀ i,i < m → ∃ b o,a2 = some ⟨b,o,none⟩ ∧ ∀ W',Below w1.heap.size w1 W' → ItAt w1 b (o + i * 8) (itAt l (A + i)) W') := hat2
  clear hat hat2 hsl hc hcs hs1 hI
  go_loopw [10,11,27] (fun p q i wr => ∃ k : Nat,k ≤ m ∧ i = .int .i64 k ∧ p = .int .i64 (suS l A k) ∧ q = .int .i64 (suH l A k) ∧ Below w1.heap.size w1 wr) (fun _ _ i _ => m - (intOf i).toNat)
  case atStart => exact ⟨0,by omega,rfl,rfl,rfl,Below.refl _ _⟩
  case round =>
   obtain ⟨k,hk,rfl,rfl,rfl,hb2⟩ := hrel
   by_cases hlt : k < m
   ·have hlt' : (k : Int) < m := by omega
    obtain ⟨bb,oo,rfl,hit⟩ := hat3.out k hlt
    have hi := hit wr hb2
    have c0 := hi.c0
    have c1 := hi.c1
    have c2 := hi.c2
    have c3 := hi.c3
    have c4 := hi.c4
    have c5 := hi.c5
    have c6 := hi.c6
    have c7 := hi.c7
    have hok := hgo.out k hlt
    have hr1 := hrg.out k (by omega)
    have he : Hid (suS l A (k + 1) = suS l A k + (itAt l (A + k)).s ∧ suH l A (k + 1) = suH l A k + (itAt l (A + k)).h) := ⟨rfl,rfl⟩
    clear hit hi
    generalize itAt l (A + k) = it at *
    obtain ⟨k0,f0,t0,w0,s0,h0,q0,y0⟩ := it
    unfold okP at hok
    simp only at c0 c1 c2 c3 c4 c5 c6 c7 hok he
    have hs0 : 0 ≤ s0 ∧ s0 ≤ 4095 := hok.2.2.2.2.1
    have hh0 : 0 ≤ h0 ∧ h0 ≤ 4095 := hok.2.2.2.2.2.1
    obtain ⟨p,hp⟩ : ∃ p,suS l A k = p := ⟨_,rfl⟩
    obtain ⟨q,hq⟩ : ∃ p,suH l A k = p := ⟨_,rfl⟩
    have hp0 : 0 ≤ p := by omega
    have hp1 : p ≤ 50000000 := by omega
    have hq0 : 0 ≤ q := by omega
    have hq1 : q ≤ 50000000 := by omega
    rw [hp,hq] at he ⊢
    have hkk : Hid (k ≤ m) := hk
    clear hok hr1 hp hk hq
    have hB2 := hb2.alloc hb2.size (.cells #[.int .i64 k0,.int .i64 f0,.int .i64 t0,.int .i64 w0,.int .i64 s0,.int .i64 h0,.int .i64 q0,.bool y0] 68)
    go_wp2_with fail
    go_roundw
    case rel => exact ⟨k + 1,by omega,by simp,by rw [he.out.1],by rw [he.out.2],hB2⟩
    case measure => simp [intOf]; omega
   ·obtain rfl : k = m := by omega
    have hb3 : Below w.heap.size w wr := hb1.trans (hb2.mono hb1.size)
    have hge : ¬ (k : Int) < k := by omega
    clear hat3 hgo hrg
    go_wp2_with fail
    go_ret3
    exact ⟨rfl,hb3⟩
 ·rw [if_neg h0,if_neg h0]
  have h0' : (rfL l x y == 0) = false := by simpa using h0
  clear h0 hSh
  generalize rfL l x y = n at *
  go_enter Tryz.func24,Tryz.ntmps24
  go_wp2_with (go_at_call 38; refine hc.out.mono ?_; rintro e w' ⟨rfl,hb2⟩)
  go_ret3
  exact ⟨rfl,hb2⟩
end Go.Proofs.YtfiekhephkpdjaaGreatDoor
