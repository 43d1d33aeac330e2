/-
  What is proved here: how wide a cluster is, and how much nearer it stands, as wide, isKerned and meet tell it.
  What is proved here: regions of Masses whose operations come up in any order.
  What is proved here: records that fill a block (no function of the program is named).
  What is proved here: sums of widths, stretches and shrinks; what tight, part and ratio of least answer.
-/
import Derived.Test.YtfndocmgonlhpaaGreatDoorG4
import Derived.Test.YtfndocmgonlhpaaGreatDoorG1
import Derived.Test.YtfndocmgonlhpaaGreatDoorG2
import Derived.Deep.MidRow
import Derived.OrdersHeld
import Derived.Test.YtfndocmgonlhpaaGreatDoorRows
import Derived.BigQuiet
import Derived.Handy
namespace Go.Proofs.YtfndocmgonlhpaaGreatDoor
open Go.RowKit Go.Shelf
set_option maxRecDepth 100000
set_option maxHeartbeats 1000000

structure Fc where
 kd : Int
 b : Int
 s : Int
 t : Int
 k : Int
def fcC (f : Fc) : Array Value := #[.int .i64 f.kd,.int .u8 f.b,.int .i64 f.s,.int .i64 f.t,.int .i64 f.k]
def fcV (f : Fc) : Value := .agg (fcC f)
structure Fok (f : Fc) : Prop where
 s : 0 ≤ f.s ∧ f.s ≤ 64
 t : 0 ≤ f.t ∧ f.t ≤ 15
 b : 0 ≤ f.b ∧ f.b < 256
def wdI (f : Fc) (m : ByteArray) : Int := if f.kd = 1 ∨ f.kd = 2 ∨ f.kd = 3 then bw f.b f.s + f.t else if f.kd = 7 then widthI m f.s else 0
def kerB (f : Fc) : Bool := decide (f.k = 1 ∧ (f.kd = 1 ∨ f.kd = 2))
def meetI (a f : Fc) : Int := if kerB a = true ∧ kerB f = true ∧ a.s = f.s then kernI a.b f.b f.s else 0

theorem wide_any (f : Fc) (hf : Fok f) (m : ByteArray) (hm : m.size ≤ 4096) (w : World) : Calls Tryz.prog 41 #[fcV f,.string m] w fun e w' => e = .returned (.int .i64 (wdI f m)) ∧ Below w.heap.size w w' := by
 obtain ⟨kd,b,s,t,k⟩ := f
 obtain ⟨⟨s0,s1⟩,⟨t0,t1⟩,hb⟩ := hf
 simp only at s0 s1 t0 t1 hb
 have hB := (Below.refl w.heap.size w).alloc (Nat.le_refl _) (Obj.cells #[.int .i64 kd,.int .u8 b,.int .i64 s,.int .i64 t,.int .i64 k] 114)
 have hE := em_any b
 obtain ⟨hm0,hm1⟩ := bw_mul b s0 s1
 have hd : (emI b * s).tdiv 8 = emI b * s / 8 := Int.tdiv_eq_ediv_of_nonneg hm0
 have hW := width_any m s s0 s1 hm
 have hvis : Hid ((kd = 1 ∨ kd = 2 ∨ kd = 3) → wdI ⟨kd,b,s,t,k⟩ m = emI b * s / 8 + t) := fun h => if_pos h
 have href : Hid (kd = 7 → wdI ⟨kd,b,s,t,k⟩ m = widthI m s) := fun h => by unfold wdI; simp only; rw [if_neg (by omega),if_pos h]
 have hno : Hid (¬ (kd = 1 ∨ kd = 2 ∨ kd = 3) → kd ≠ 7 → wdI ⟨kd,b,s,t,k⟩ m = 0) := fun h h7 => by unfold wdI; simp only; rw [if_neg h,if_neg h7]
 generalize wdI ⟨kd,b,s,t,k⟩ m = r at *
 show Calls Tryz.prog 41 #[.agg #[.int .i64 kd,.int .u8 b,.int .i64 s,.int .i64 t,.int .i64 k],.string m] w _
 generalize emI b = e0 at *
 by_cases hv : kd = 1 ∨ kd = 2 ∨ kd = 3
 ·have hr := hvis.out hv
  subst hr
  clear hvis href hno hW
  rcases hv with rfl | rfl | rfl
  all_goals
   go_enter Tryz.func41,Tryz.ntmps41
   go_wp2_with fail
   go_quiet (first | (go_at_call 78; refine Calls.quiet_of_same (hE _)))
   go_wp2_with fail
   go_ret
   exact ⟨rfl,below_drewN hB _⟩
 ·by_cases h7 : kd = 7
  ·have hr := href.out h7
   subst hr
   subst h7
   clear hvis href hno hE
   go_enter Tryz.func41,Tryz.ntmps41
   go_wp2_with (go_at_call 79; refine (hW _).mono ?_; rintro e w' ⟨rfl,hww⟩; subst w')
   go_ret
   exact ⟨rfl,hB⟩
  ·have hr := hno.out hv h7
   subst hr
   have f1 : (kd == 1) = false := by simp; omega
   have f2 : (kd == 2) = false := by simp; omega
   have f3 : (kd == 3) = false := by simp; omega
   have f7 : (kd == 7) = false := by simp; omega
   clear hvis href hno hE hW hv h7
   go_enter Tryz.func41,Tryz.ntmps41
   go_wp2_with fail
   go_ret
   exact ⟨rfl,hB⟩

theorem isKerned_any (f : Fc) (w : World) : Calls Tryz.prog 80 #[fcV f] w fun e w' => e = .returned (.bool (kerB f)) ∧ Below w.heap.size w w' := by
 obtain ⟨kd,b,s,t,k⟩ := f
 have hB := (Below.refl w.heap.size w).alloc (Nat.le_refl _) (Obj.cells #[.int .i64 kd,.int .u8 b,.int .i64 s,.int .i64 t,.int .i64 k] 114)
 have hk : kerB ⟨kd,b,s,t,k⟩ = decide (k = 1 ∧ (kd = 1 ∨ kd = 2)) := rfl
 rw [hk]
 show Calls Tryz.prog 80 #[.agg #[.int .i64 kd,.int .u8 b,.int .i64 s,.int .i64 t,.int .i64 k]] w _
 clear hk
 by_cases h1 : k = 1
 ·by_cases h2 : kd = 1
  ·rw [decide_eq_true ⟨h1,.inl h2⟩]
   subst h1 h2
   go_enter Tryz.func80,Tryz.ntmps80
   go_wp2_with fail
   go_ret
   exact ⟨rfl,hB⟩
  ·have f1 : (kd == 1) = false := by simpa using h2
   by_cases h3 : kd = 2
   ·rw [decide_eq_true ⟨h1,.inr h3⟩]
    subst h1 h3
    go_enter Tryz.func80,Tryz.ntmps80
    go_wp2_with fail
    go_ret
    exact ⟨rfl,hB⟩
   ·have f2 : (kd == 2) = false := by simpa using h3
    rw [decide_eq_false (by omega)]
    subst h1
    clear h2 h3
    go_enter Tryz.func80,Tryz.ntmps80
    go_wp2_with fail
    go_ret
    exact ⟨by first | rfl | (congr 2),hB⟩
 ·have f1 : (k == 1) = false := by simpa using h1
  rw [decide_eq_false (by omega)]
  clear h1
  go_enter Tryz.func80,Tryz.ntmps80
  go_wp2_with fail
  go_ret
  exact ⟨rfl,hB⟩

structure FB (w : World) (B : Nat) (f : Fc) : Prop where
 row : w.heap[B]? = some (.cells (fcC f) 114 (0,0))
theorem FB.lt {w : World} {B : Nat} {f : Fc} (h : FB w B f) : B < w.heap.size := (Array.getElem?_eq_some_iff.1 h.row).1
theorem FB.below {w w' : World} {n B : Nat} {f : Fc} (h : FB w B f) (hb : Below n w w') (hn : B < n) : FB w' B f := ⟨(hb.block B hn).trans h.row⟩
theorem FB.turns {X : Nat → Prop} {w w' : World} {B : Nat} {f : Fc} (h : FB w B f) (hb : Turns X w w') (hn : ¬ X B) : FB w' B f := ⟨(hb.block B h.lt hn).trans h.row⟩
theorem FB.new (w : World) (f : Fc) : FB (w.alloc (.cells (fcC f) 114)) w.heap.size f := ⟨World.alloc_heap_new w _⟩
theorem FB.cell {w : World} {B : Nat} {f : Fc} (h : FB w B f) {k : Nat} {v : Value} (hk : (fcC f)[k]? = some v) : w.cell? ⟨B,k,none⟩ = some v := by
 rw [Lib.cell_of_heap h.row,hk]
theorem FB.c1 {w : World} {B : Nat} {f : Fc} (h : FB w B f) : w.cell? ⟨B,1,none⟩ = some (.int .u8 f.b) := h.cell rfl
theorem FB.c2 {w : World} {B : Nat} {f : Fc} (h : FB w B f) : w.cell? ⟨B,2,none⟩ = some (.int .i64 f.s) := h.cell rfl
theorem info68 (f : Fc) : (Tryz.prog.info? 114).map (·.size) = some (fcC f).size := by show _ = some 5; kernel_rfl

theorem meet_any (f g : Fc) (hg : Fok g) (w : World) : Calls Tryz.prog 42 #[fcV f,fcV g] w fun e w' => e = .returned (.int .i64 (meetI f g)) ∧ Below w.heap.size w w' := by
 have hB0 := (Below.refl w.heap.size w).alloc (Nat.le_refl _) (Obj.cells (fcC f) 114)
 have hB := hB0.alloc hB0.size (Obj.cells (fcC g) 114)
 have hF0 := FB.new w f
 have hF : FB ((w.alloc (.cells (fcC f) 114)).alloc (.cells (fcC g) 114)) w.heap.size f := ⟨(Below.heap_alloc _ _ _ (by simp)).trans hF0.row⟩
 have hG : FB ((w.alloc (.cells (fcC f) 114)).alloc (.cells (fcC g) 114)) (w.heap.size + 1) g := by have := FB.new (w.alloc (.cells (fcC f) 114)) g; rwa [World.size_alloc] at this
 have hi := isKerned_any f
 have hj := isKerned_any g
 have hsz : ((w.alloc (.cells (fcC f) 114)).alloc (.cells (fcC g) 114)).heap.size = w.heap.size + 2 := by simp
 unfold fcV at *
 clear hF0 hB0
 generalize hw1 : (w.alloc (.cells (fcC f) 114)).alloc (.cells (fcC g) 114) = w1 at *
 cases h1 : kerB f
 ·have hr : meetI f g = 0 := if_neg (by simp [h1])
  rw [hr]
  rw [h1] at hi
  clear hj hr h1
  go_enter Tryz.func42,Tryz.ntmps42
  go_wp2_with (refine wpList_load_row rfl 114 _ rfl w.heap.size rfl 114 _ (0,0) _ hF.row Tryz.underlying114 rfl (info68 f) ?_)
  refine (hi _).mono ?_
  rintro e w2 ⟨rfl,hb2⟩
  have hB2 := hB.trans (hb2.mono hB.size)
  go_wp2_with fail
  go_ret
  exact ⟨rfl,hB2⟩
 ·cases h2 : kerB g
  ·have hr : meetI f g = 0 := if_neg (by simp [h2])
   rw [hr]
   rw [h1] at hi
   rw [h2] at hj
   clear hr h1 h2
   go_enter Tryz.func42,Tryz.ntmps42
   go_wp2_with (refine wpList_load_row rfl 114 _ rfl w.heap.size rfl 114 _ (0,0) _ hF.row Tryz.underlying114 rfl (info68 f) ?_)
   refine (hi _).mono ?_
   rintro e w2 ⟨rfl,hb2⟩
   have hB2 := hB.trans (hb2.mono hB.size)
   have hG2 := hG.below hb2 hG.lt
   go_wp2_with (refine wpList_load_want 114 _ rfl (by rfl) (w.heap.size + 1) rfl 114 _ (0,0) _ hG2.row Tryz.underlying114 rfl (info68 g) ?_)
   refine (hj _).mono ?_
   rintro e w3 ⟨rfl,hb3⟩
   have hB3 := hB2.trans (hb3.mono hB2.size)
   go_wp2_with fail
   go_ret
   exact ⟨rfl,hB3⟩
  ·rw [h1] at hi
   rw [h2] at hj
   by_cases h3 : f.s = g.s
   ·have hr : meetI f g = kernI f.b g.b g.s := if_pos ⟨h1,h2,h3⟩
    rw [hr]
    have hK := kern_any f.b g.b g.s hg.s.1 hg.s.2
    have q0 : (f.s != g.s) = false := by simp [h3]
    clear hr h1 h2 h3
    go_enter Tryz.func42,Tryz.ntmps42
    go_wp2_with (refine wpList_load_row rfl 114 _ rfl w.heap.size rfl 114 _ (0,0) _ hF.row Tryz.underlying114 rfl (info68 f) ?_)
    refine (hi _).mono ?_
    rintro e w2 ⟨rfl,hb2⟩
    have hB2 := hB.trans (hb2.mono hB.size)
    have hG2 := hG.below hb2 hG.lt
    have hF2 := hF.below hb2 hF.lt
    go_wp2_with (refine wpList_load_want 114 _ rfl (by rfl) (w.heap.size + 1) rfl 114 _ (0,0) _ hG2.row Tryz.underlying114 rfl (info68 g) ?_)
    refine (hj _).mono ?_
    rintro e w3 ⟨rfl,hb3⟩
    have hB3 := hB2.trans (hb3.mono hB2.size)
    have hG3 := hG2.below hb3 hG2.lt
    have hF3 := hF2.below hb3 hF2.lt
    have c1 := hF3.c1; have c2 := hF3.c2; have d1 := hG3.c1; have d2 := hG3.c2
    clear hG hF hG2 hF2 hG3 hF3
    go_wp2_with (go_at_call 81; refine (hK _).mono ?_; rintro e w' ⟨rfl,hww⟩; subst w')
    go_ret
    exact ⟨rfl,hB3⟩
   ·have hr : meetI f g = 0 := if_neg (by simp [h3])
    rw [hr]
    have q0 : (f.s != g.s) = true := by simp [h3]
    clear hr h1 h2 h3
    go_enter Tryz.func42,Tryz.ntmps42
    go_wp2_with (refine wpList_load_row rfl 114 _ rfl w.heap.size rfl 114 _ (0,0) _ hF.row Tryz.underlying114 rfl (info68 f) ?_)
    refine (hi _).mono ?_
    rintro e w2 ⟨rfl,hb2⟩
    have hB2 := hB.trans (hb2.mono hB.size)
    have hG2 := hG.below hb2 hG.lt
    have hF2 := hF.below hb2 hF.lt
    go_wp2_with (refine wpList_load_want 114 _ rfl (by rfl) (w.heap.size + 1) rfl 114 _ (0,0) _ hG2.row Tryz.underlying114 rfl (info68 g) ?_)
    refine (hj _).mono ?_
    rintro e w3 ⟨rfl,hb3⟩
    have hB3 := hB2.trans (hb3.mono hB2.size)
    have hG3 := hG2.below hb3 hG2.lt
    have hF3 := hF2.below hb3 hF2.lt
    have c1 := hF3.c1; have c2 := hF3.c2; have d1 := hG3.c1; have d2 := hG3.c2
    clear hG hF hG2 hF2 hG3 hF3
    go_wp2_with fail
    go_ret
    exact ⟨rfl,hB3⟩

end Go.Proofs.YtfndocmgonlhpaaGreatDoor

namespace Go.Proofs.YtfndocmgonlhpaaGreatDoor
open Go.RowKit Go.Shelf
set_option maxRecDepth 100000
set_option maxHeartbeats 1000000

theorem below_drew (w : World) : Below w.heap.size w w.drew := (Below.refl _ _).drew
theorem load_pa {a : Act} {w : World} {B : Nat} {s : Pa} {o : Oper} {x : Operand} (h : PB w B s) (ho : o.op = .load 37 x) (hx : a.eval x = .pointer (some ⟨B,0,none⟩)) : (execOp a.eval o).run Tryz.prog w = .ok (.value (.agg (paC s))) w := by
 have hl := run_loadVar_row (P := Tryz.prog) w B 37 37 (paC s) (0,0) _ h.row Tryz.underlying37 rfl (info34 s)
 simp [execOp,ho,hx,Instr.loadAt,Instr.sureAddr,hl]
theorem load_fc {a : Act} {w : World} {B : Nat} {s : Fc} {o : Oper} {x : Operand} (h : FB w B s) (ho : o.op = .load 114 x) (hx : a.eval x = .pointer (some ⟨B,0,none⟩)) : (execOp a.eval o).run Tryz.prog w = .ok (.value (.agg (fcC s))) w := by
 have hl := run_loadVar_row (P := Tryz.prog) w B 114 114 (fcC s) (0,0) _ h.row Tryz.underlying114 rfl (info68 s)
 simp [execOp,ho,hx,Instr.loadAt,Instr.sureAddr,hl]
structure CB (W : World) (B : Nat) (a b c : Int) : Prop where
 row : W.heap[B]? = some (.cells #[.int .i64 a,.int .i64 b,.int .i64 c] 116 (0,0))
theorem CB.lt {w : World} {B : Nat} {a b c : Int} (h : CB w B a b c) : B < w.heap.size := (Array.getElem?_eq_some_iff.1 h.row).1
theorem CB.turns {X : Nat → Prop} {w w' : World} {B : Nat} {a b c : Int} (h : CB w B a b c) (hb : Turns X w w') (hn : ¬ X B) : CB w' B a b c := ⟨(hb.block B h.lt hn).trans h.row⟩
theorem CB.below {n : Nat} {w w' : World} {B : Nat} {a b c : Int} (h : CB w B a b c) (hb : Below n w w') (hn : B < n) : CB w' B a b c := ⟨(hb.block B hn).trans h.row⟩
theorem CB.c0 {W : World} {B : Nat} {a b c : Int} (h : CB W B a b c) : W.cell? ⟨B,0,none⟩ = some (.int .i64 a) := by rw [Lib.cell_of_heap h.row]; rfl
theorem CB.c1 {W : World} {B : Nat} {a b c : Int} (h : CB W B a b c) : W.cell? ⟨B,1,none⟩ = some (.int .i64 b) := by rw [Lib.cell_of_heap h.row]; rfl
theorem CB.c2 {W : World} {B : Nat} {a b c : Int} (h : CB W B a b c) : W.cell? ⟨B,2,none⟩ = some (.int .i64 c) := by rw [Lib.cell_of_heap h.row]; rfl
theorem PB.turns {X : Nat → Prop} {w w' : World} {B : Nat} {a : Pa} (h : PB w B a) (hb : Turns X w w') (hn : ¬ X B) : PB w' B a := ⟨(hb.block B h.lt hn).trans h.row⟩
theorem Turns.setRow {X : Nat → Prop} (W : World) {r : Nat} (hp : X r) (cs : Array Value) : Turns X W (W.setRow r cs) :=
 ⟨rfl,rfl,rfl,by simp,fun k _ hk => setRow_other W r k cs (fun e => hk (e ▸ hp))⟩
def fr17 (v0 v1 v2 v3 v4 v5 v6 v7 v8 v9 xa xb xc xd xe xf xg xh xi xj xk xl xm xn xo xp xq xr xt xu xv xw xx xy xz xA xB xC xD xE xF xG xH xI xJ xK xL xM xN xO xP xQ xR xS xT xU xV xW xX xY xZ ya yb yc yd ye yf yg yh yi yj yk yl ym yn yo yp yq : Value) : Act := { tmps := #[v0,v1,v2,v3,v4,v5,v6,v7,v8,v9,xa,xb,xc,xd,xe,xf,xg,xh,xi,xj,xk,xl,xm,xn,xo,xp,xq,xr,xt,xu,xv,xw,xx,xy,xz,xA,xB,xC,xD,xE,xF,xG,xH,xI,xJ,xK,xL,xM,xN,xO,xP,xQ,xR,xS,xT,xU,xV,xW,xX,xY,xZ,ya,yb,yc,yd,ye,yf,yg,yh,yi,yj,yk,yl,ym,yn,yo,yp,yq],defers := [] }
def ops17_4 (ps : String) : Array Oper := #[⟨some 22,.load 37 (.tmp 1),37,ps,#[],none⟩,⟨some 23,.call ⟨.value (.func 40),#[.tmp 22],#[37]⟩,111,ps,#[⟨0,.data⟩],none⟩,⟨some 24,.fieldAddr 37 (.tmp 1) 4,0,ps,#[⟨4,.gcOnly .lateStores⟩],none⟩,⟨some 25,.load 35 (.tmp 24),35,ps,#[⟨2,.data⟩,⟨4,.gcOnly .lateStores⟩],none⟩,⟨some 6,.assign (.tmp 23),111,ps,#[⟨1,.data⟩,⟨1,.chain⟩,⟨0,.phase⟩,⟨1,.phase⟩,⟨2,.textOnly .lateStores⟩,⟨3,.textOnly .lateStores⟩],none⟩,⟨some 7,.assign (.tmp 25),35,ps,#[⟨3,.data⟩,⟨4,.chain⟩,⟨0,.phase⟩,⟨1,.phase⟩,⟨2,.phase⟩,⟨3,.phase⟩,⟨4,.phase⟩],none⟩]

theorem mass_r4 (Q : Exit → Act → World → Prop) (hQ : ∀ c x (n : Nat) v w,Q (.panic c) (x.put (some n) v) w → Q (.panic c) x w) (id : Nat) (ps : String) {v0 v2 v3 v4 v5 v6 v7 v8 v9 xa xb xc xd xe xf xg xh xi xj xk xl xm xn xo xp xq xr xt xu xv xw xx xy xz xA xB xC xD xE xF xG xH xI xJ xK xL xM xN xO xP xQ xR xS xT xU xV xW xX xY xZ ya yb yc yd ye yf yg yh yi yj yk yl ym yn yo yp yq : Value}
  (B : Nat) (a : Pa) (w0 : World) (hP : PB w0 B a) (hA : PaAt w0 a)
  (hq : ∀ F S Bq w',(w0.heap.size ≤ F ∧ w0.heap.size ≤ S ∧ w0.heap.size ≤ Bq ∧ F < w'.heap.size ∧ S < w'.heap.size ∧ Bq < w'.heap.size) → (a.sp ≠ [] → LkAt a F S Bq 0 w') → Below w0.heap.size w0 w' → Q .normal (fr17 v0 (.pointer (some ⟨B,0,none⟩)) v2 v3 v4 v5 (.func (.func 77) #[] #[.pointer (some ⟨F,0,none⟩),.pointer (some ⟨S,0,none⟩),.pointer (some ⟨Bq,0,none⟩)]) a.mv v8 v9 xa xb xc xd xe xf xg xh xi xj xk xl (.agg (paC a)) (.func (.func 77) #[] #[.pointer (some ⟨F,0,none⟩),.pointer (some ⟨S,0,none⟩),.pointer (some ⟨Bq,0,none⟩)]) (.pointer (some ⟨B,20,none⟩)) a.mv xq xr xt xu xv xw xx xy xz xA xB xC xD xE xF xG xH xI xJ xK xL xM xN xO xP xQ xR xS xT xU xV xW xX xY xZ ya yb yc yd ye yf yg yh yi yj yk yl ym yn yo yp yq) w') :
  (Code.region id (ops17_4 ps) true).wp Tryz.prog Q (fr17 v0 (.pointer (some ⟨B,0,none⟩)) v2 v3 v4 v5 v6 v7 v8 v9 xa xb xc xd xe xf xg xh xi xj xk xl xm xn xo xp xq xr xt xu xv xw xx xy xz xA xB xC xD xE xF xG xH xI xJ xK xL xM xN xO xP xQ xR xS xT xU xV xW xX xY xZ ya yb yc yd ye yf yg yh yi yj yk yl ym yn yo yp yq) w0 := by
 refine wp_region_held (S := fun w => PB w B a ∧ PaAt w a) (by kernel_rfl) ?_
 change wpAnyH _ _ _ _ _ 6 _ _ (World.drew w0)
 have C0 : PB w0.drew B a ∧ PaAt w0.drew a := ⟨hP.below (below_drew w0) hP.lt,hA.below (below_drew w0) (Nat.le_refl _)⟩
 refine take_r 0 ⟨some 22,.load 37 (.tmp 1),37,ps,#[],none⟩ (.agg (paC a)) hQ (fun w hS => load_pa (x := (Operand.tmp 1)) hS.1 (by kernel_rfl) (by kernel_rfl)) C0 ?_
 refine take_r 2 ⟨some 24,.fieldAddr 37 (.tmp 1) 4,0,ps,#[⟨4,.gcOnly .lateStores⟩],none⟩ (.pointer (some ⟨B,20,none⟩)) hQ (fun w hS => by unfold fr17; go_simp) C0 ?_
 refine take_r 3 ⟨some 25,.load 35 (.tmp 24),35,ps,#[⟨2,.data⟩,⟨4,.gcOnly .lateStores⟩],none⟩ (a.mv) hQ (fun w hS => by have e := hS.1.c20; unfold fr17; go_simp) C0 ?_
 refine want_k 1 ⟨some 23,.call ⟨.value (.func 40),#[.tmp 22],#[37]⟩,111,ps,#[⟨0,.data⟩],none⟩ fun K hK => ?_
 unfold fr17
 go_simp
 refine (looks_any a _ C0.2).mono ?_
 rintro e w1 ⟨F,S,Bq,rfl,hbd,hL,B1⟩
 have C1 : PB w1 B a ∧ PaAt w1 a := ⟨C0.1.below B1 C0.1.lt,C0.2.below B1 (Nat.le_refl _)⟩
 refine hK _ _ C1 (cast_h (fr17 v0 (.pointer (some ⟨B,0,none⟩)) v2 v3 v4 v5 v6 v7 v8 v9 xa xb xc xd xe xf xg xh xi xj xk xl (.agg (paC a)) (.func (.func 77) #[] #[.pointer (some ⟨F,0,none⟩),.pointer (some ⟨S,0,none⟩),.pointer (some ⟨Bq,0,none⟩)]) (.pointer (some ⟨B,20,none⟩)) a.mv xq xr xt xu xv xw xx xy xz xA xB xC xD xE xF xG xH xI xJ xK xL xM xN xO xP xQ xR xS xT xU xV xW xX xY xZ ya yb yc yd ye yf yg yh yi yj yk yl ym yn yo yp yq) (by kernel_rfl) ?_)
 clear hK K
 refine take_r 4 ⟨some 6,.assign (.tmp 23),111,ps,#[⟨1,.data⟩,⟨1,.chain⟩,⟨0,.phase⟩,⟨1,.phase⟩,⟨2,.textOnly .lateStores⟩,⟨3,.textOnly .lateStores⟩],none⟩ (.func (.func 77) #[] #[.pointer (some ⟨F,0,none⟩),.pointer (some ⟨S,0,none⟩),.pointer (some ⟨Bq,0,none⟩)]) hQ (fun w _ => by kernel_rfl) C1 ?_
 refine take_r 5 ⟨some 7,.assign (.tmp 25),35,ps,#[⟨3,.data⟩,⟨4,.chain⟩,⟨0,.phase⟩,⟨1,.phase⟩,⟨2,.phase⟩,⟨3,.phase⟩,⟨4,.phase⟩],none⟩ (a.mv) hQ (fun w _ => by kernel_rfl) C1 ?_
 exact wpAnyH_done (by kernel_rfl) (hq _ _ _ _ hbd hL ((below_drew w0).trans B1)) _
end Go.Proofs.YtfndocmgonlhpaaGreatDoor

namespace Go.Proofs.YtfndocmgonlhpaaGreatDoor
open Go.RowKit Go.Shelf

structure RB {α : Type} (k : Nat) (f : α → List Value) (W : World) (g : Nat) (L : List α) : Prop where
 lt : g < W.heap.size
 all : ∀ i (hi : i < L.length) (j : Nat) v,(f L[i])[j]? = some v → W.cell? ⟨g,i * k + j,none⟩ = some v ∧ W.frozen? ⟨g,i * k + j,none⟩ = false
section
variable {α : Type} {k : Nat} {f : α → List Value} {W W' : World} {g : Nat} {L : List α}
theorem RB.recs (h : RB k f W g L) {n cap : Nat} (hn : n ≤ L.length) (hc : n ≤ cap) : RecAt k f W (.slice (some ⟨g,0,none⟩) n cap) (L.take n) := by
 refine ⟨⟨some ⟨g,0,none⟩,cap,by rw [List.length_take,Nat.min_eq_left hn],.inr ⟨g,0,rfl,h.lt,fun i hi j v hv => ?_⟩⟩,fun a n' c e => ?_⟩
 ·have hil : i < L.length := by rw [List.length_take] at hi; omega
  rw [List.getElem_take] at hv
  have := (h.all i hil j v hv).1
  rw [Nat.zero_add]
  exact this
 ·cases e
  exact hc
theorem RB.same (h : RB k f W g L) (hs : W.heap.size ≤ W'.heap.size) (hbk : W'.heap[g]? = W.heap[g]?) : RB k f W' g L := ⟨Nat.lt_of_lt_of_le h.lt hs,fun i hi j v hv => by
 have := h.all i hi j v hv
 have e1 : W'.cell? ⟨g,i * k + j,none⟩ = W.cell? ⟨g,i * k + j,none⟩ := by unfold World.cell?; rw [hbk]
 have e2 : W'.frozen? ⟨g,i * k + j,none⟩ = W.frozen? ⟨g,i * k + j,none⟩ := by unfold World.frozen?; rw [hbk]
 rw [e1,e2]; exact this⟩
theorem RB.below {n : Nat} (h : RB k f W g L) (hb : Below n W W') (hn : g < n) : RB k f W' g L := h.same hb.size (hb.block g hn)
theorem RB.turns {X : Nat → Prop} (h : RB k f W g L) (hb : Turns X W W') (hn : ¬ X g) : RB k f W' g L := h.same hb.size (hb.block g h.lt hn)
theorem turns_setCells {X : Nat → Prop} {g : Nat} (hg : X g) : ∀ (vs : List Value) (o : Nat) (W : World),Turns X W (W.setCells g o vs)
 | [],_,_W => Turns.refl _ _
 | v :: r,o,W => (Turns.setCell W (p := ⟨g,o,none⟩) hg v).trans (turns_setCells hg r (o + 1) _)
theorem RB.there (hf : ∀ a,(f a).length = k) (h : RB k f W g L) {p : Nat} (hp : p < L.length) : W.there g (p * k) k := fun j hj => by
 obtain ⟨v,hv⟩ : ∃ v,(f L[p])[j]? = some v := ⟨(f L[p])[j]'(by rw [hf]; exact hj),List.getElem?_eq_getElem _⟩
 have := h.all p hp j v hv
 exact ⟨by rw [this.1]; rfl,this.2⟩
theorem apart_mul {i p j k : Nat} (hj : j < k) (e : ¬ p = i) : i * k + j < p * k ∨ p * k + k ≤ i * k + j := by
 rcases Nat.lt_or_gt_of_ne e with h | h
 ·right
  have : (p + 1) * k ≤ i * k := Nat.mul_le_mul_right k h
  rw [Nat.succ_mul] at this
  omega
 ·left
  have : (i + 1) * k ≤ p * k := Nat.mul_le_mul_right k h
  rw [Nat.succ_mul] at this
  omega
theorem RB.set (hf : ∀ a,(f a).length = k) (h : RB k f W g L) {p : Nat} (hp : p < L.length) (x : α) : RB k f (W.setCells g (p * k) (f x)) g (L.set p x) := by
 refine ⟨Nat.lt_of_lt_of_le h.lt (turns_setCells (X := fun _ => True) trivial _ _ _).size,fun i hi j v hv => ?_⟩
 have hi' : i < L.length := by simpa using hi
 have hj : j < k := by have := (List.getElem?_eq_some_iff.1 hv).1; rw [hf] at this; exact this
 rw [World.frozen?_setCells]
 by_cases e : p = i
 ·subst e
  rw [List.getElem_set_self] at hv
  have := (World.rangeAt_setCells_same W g (p * k) (f x) (by rw [hf]; exact h.there hf hp)) j v hv
  refine ⟨this,?_⟩
  exact ((h.there hf hp) j hj).2
 ·rw [List.getElem_set_ne e] at hv
  have := h.all i hi' j v hv
  refine ⟨?_,this.2⟩
  rw [World.cell?_setCells_out g (f x) (p * k) W ⟨g,i * k + j,none⟩ (fun _ _ => by rw [hf]; exact apart_mul hj e)]
  exact this.1
theorem RB.of_row {t : TypeId} {cur : Array Value} (hg : W.heap[g]? = some (.cells cur t (0,0))) (hc : ∀ i (hi : i < L.length) (j : Nat) v,(f L[i])[j]? = some v → cur[i * k + j]? = some v) : RB k f W g L :=
 ⟨(Array.getElem?_eq_some_iff.1 hg).1,fun i hi j v hv => ⟨by rw [Lib.cell_of_heap hg]; exact hc i hi j v hv,Lib.frozen_of_heap hg _⟩⟩
theorem made_rec (hf : ∀ a,(f a).length = k) (hk : 0 < k) (z : α) (n : Nat) : madeCells (f z).toArray (n * k) = ((List.replicate n z).flatMap f).toArray := by
 apply Array.ext
 ·rw [size_madeCells]; simp only [List.size_toArray]; rw [fm_len hf,List.length_replicate]
 ·intro i h1 h2
  have hik : i < n * k := by simpa [madeCells] using h1
  have hdv : i / k < n := Nat.div_lt_of_lt_mul (by rw [Nat.mul_comm]; exact hik)
  have hmd : i % k < k := Nat.mod_lt _ hk
  have hi : i / k < (List.replicate n z).length := by simpa using hdv
  have hv := fm_get hf (List.replicate n z) hi (i % k) hmd
  rw [List.getElem_replicate,show i / k * k + i % k = i by rw [Nat.mul_comm]; exact Nat.div_add_mod i k] at hv
  have : ((List.replicate n z).flatMap f)[i]? = some (((List.replicate n z).flatMap f).toArray[i]'h2) := by simp
  rw [this] at hv
  have hm : (madeCells (f z).toArray (n * k))[i] = (f z).toArray[i % (f z).toArray.size]! := by simp [madeCells]
  have h8 : (f z).toArray.size = k := by simpa using hf z
  rw [hm,h8,getElem!_pos _ _ (by rw [h8]; exact hmd)]
  rw [List.getElem?_eq_getElem (by rw [hf]; exact hmd)] at hv
  rw [Option.some.inj hv]
  simp
end
theorem all_h {P : Program} {md : Region.Mode} {ops : Array Oper} {Q : Exit → Act → World → Prop} {S : World → Prop} {fuel : Nat} {listed : Array Bool} {a : Act} {w : World} (is : List Nat) (hr : Region.ready md ops listed = is) (hne : is ≠ [])
  (h : ∀ i ∈ is,∃ oi,ops[i]? = some oi ∧ Region.wanted oi (yielded ops a.tmps) = true ∧ ∀ K : Act → World → Prop,(∀ a' w',S w' → wpAnyH P md ops Q S fuel (listed.setIfInBounds i true) a' w' → K a' w') → oi.wp P a w K Q) : wpAnyH P md ops Q S (fuel + 1) listed a w :=
 wpAnyH_all hr hne fun j hj => by
  obtain ⟨oi,h1,h2,h3⟩ := h j hj
  unfold wpOp
  simp only [h1,h2,if_true]
  exact Or.inl (h3 _ fun a' w' hS h' => ⟨hS,h'⟩)
end Go.Proofs.YtfndocmgonlhpaaGreatDoor

namespace Go.Proofs.YtfndocmgonlhpaaGreatDoor
open Go.RowKit Go.Shelf
set_option maxRecDepth 100000
set_option maxHeartbeats 2000000

structure Su where
 w : Int
 s : Int
 h : Int
def suL (x : Su) : List Value := [.int .i64 x.w,.int .i64 x.s,.int .i64 x.h]
theorem suL_len (x : Su) : (suL x).length = 3 := rfl
theorem suL_one (x : Su) : ∀ u ∈ suL x,u.oneCell' = true := by
 intro u hu; simp [suL] at hu; rcases hu with rfl | rfl | rfl <;> rfl
def su0 : Su := ⟨0,0,0⟩
structure SuOk (x : Su) : Prop where
 w : -17179869184 ≤ x.w ∧ x.w ≤ 17179869184
 s : 0 ≤ x.s ∧ x.s ≤ 67108864
 h : 0 ≤ x.h ∧ x.h ≤ 67108864
def tiI (x : Su) : Int := 1000 * x.w - 1001 * x.h

theorem tight_any (x : Su) (h : SuOk x) (w : World) : Calls Tryz.prog 32 #[.agg (suL x).toArray] w fun e w' => e = .returned (.int .i64 (tiI x)) ∧ Below w.heap.size w w' := by
 obtain ⟨xw,xs,xh⟩ := x
 obtain ⟨⟨h1,h2⟩,-,h3,h4⟩ := h
 simp only at h1 h2 h3 h4
 have hB := (Below.refl w.heap.size w).alloc (Nat.le_refl _) (.cells #[.int .i64 xw,.int .i64 xs,.int .i64 xh] 89)
 show Calls Tryz.prog 32 #[.agg #[.int .i64 xw,.int .i64 xs,.int .i64 xh]] w _
 go_enter Tryz.func32,Tryz.ntmps32
 go_wp2_with fail
 go_ret
 exact ⟨rfl,hB⟩

def ptR (n g : Int) : Int := if g = 0 then 0 else (1000 * n).tdiv g
def ptB (n g m : Int) : Bool := decide (g ≠ 0 ∧ ptR n g ≤ m)
theorem ptR_rng {n g : Int} (hn : 0 ≤ n) (hg : 0 ≤ g) : 0 ≤ ptR n g ∧ ptR n g ≤ 1000 * n := by
 unfold ptR
 split
 ·omega
 ·rw [Int.tdiv_eq_ediv_of_nonneg (by omega)]
  exact ⟨Int.ediv_nonneg (by omega) hg,Int.ediv_le_self _ (by omega)⟩
theorem part_any (n g m : Int) (hn : 0 ≤ n ∧ n ≤ 34359738368) (hg : 0 ≤ g ∧ g ≤ 67108864) (w : World) : Calls Tryz.prog 125 #[.int .i64 n,.int .i64 g,.int .i64 m] w fun e w' => e = .returned (.tuple #[.int .i64 (ptR n g),.bool (ptB n g m)]) ∧ w' = w := by
 have hr := ptR_rng hn.1 hg.1
 obtain ⟨n1,n2⟩ := hn
 obtain ⟨g1,g2⟩ := hg
 unfold ptB
 by_cases h0 : g = 0
 ·have e1 : ptR n g = 0 := if_pos h0
  rw [e1,decide_eq_false (fun h => h.1 h0)]
  subst h0
  go_enter Tryz.func125,Tryz.ntmps125
  go_wp2_with fail
  go_ret2
  exact ⟨rfl,rfl⟩
 ·have e1 : ptR n g = (1000 * n).tdiv g := if_neg h0
  have e2 : (decide (g ≠ 0 ∧ ptR n g ≤ m)) = decide (ptR n g ≤ m) := by simp [h0]
  rw [e2]
  rw [e1] at hr ⊢
  have hd : (1000 * n).tdiv g = 1000 * n / g := Int.tdiv_eq_ediv_of_nonneg (by omega)
  rw [hd] at hr ⊢
  obtain ⟨r1,r2⟩ := hr
  have hg0 : 0 < g := by omega
  go_enter Tryz.func125,Tryz.ntmps125
  go_wp2_with fail
  go_ret2
  exact ⟨rfl,rfl⟩

def raR (x : Su) (d : Int) (l : Bool) : Int := if x.w = d ∨ (x.w < d ∧ l = true) then 0 else if x.w < d then ptR (d - x.w) x.s else ptR (x.w - d) x.h
def raB (x : Su) (d : Int) (l : Bool) : Bool := if x.w = d ∨ (x.w < d ∧ l = true) then true else if x.w < d then ptB (d - x.w) x.s 3000 else ptB (x.w - d) x.h 1000
theorem ra_rng {x : Su} {d : Int} {l : Bool} (hx : SuOk x) (h : raB x d l = true) : 0 ≤ raR x d l ∧ raR x d l ≤ 3000 := by
 unfold raB at h
 unfold raR
 split at h
 ·rename_i h1; rw [if_pos h1]; omega
 ·rename_i h1; rw [if_neg h1]
  split at h
  ·rename_i h2; rw [if_pos h2]
   exact ⟨(ptR_rng (by omega) hx.s.1).1,(of_decide_eq_true h).2⟩
  ·rename_i h2; rw [if_neg h2]
   have := (of_decide_eq_true h).2
   exact ⟨(ptR_rng (by omega) hx.h.1).1,by omega⟩
theorem ratio_any (x : Su) (d : Int) (l : Bool) (hx : SuOk x) (hd : 0 ≤ d ∧ d ≤ 4095) (w : World) : Calls Tryz.prog 92 #[.agg (suL x).toArray,.int .i64 d,.bool l] w fun e w' => e = .returned (.tuple #[.int .i64 (raR x d l),.bool (raB x d l)]) ∧ Below w.heap.size w w' := by
 have hB := (Below.refl w.heap.size w).alloc (Nat.le_refl _) (.cells (suL x).toArray 89)
 have hp1 : Hid (x.w < d → Calls Tryz.prog 125 #[.int .i64 (d - x.w),.int .i64 x.s,.int .i64 3000] (w.alloc (.cells #[.int .i64 x.w,.int .i64 x.s,.int .i64 x.h] 89)) fun e w' => e = .returned (.tuple #[.int .i64 (ptR (d - x.w) x.s),.bool (ptB (d - x.w) x.s 3000)]) ∧ w' = (w.alloc (.cells #[.int .i64 x.w,.int .i64 x.s,.int .i64 x.h] 89))) := fun h => part_any _ _ _ ⟨by omega,by have := hx.w; omega⟩ hx.s _
 have hp2 : Hid (d ≤ x.w → Calls Tryz.prog 125 #[.int .i64 (x.w - d),.int .i64 x.h,.int .i64 1000] (w.alloc (.cells #[.int .i64 x.w,.int .i64 x.s,.int .i64 x.h] 89)) fun e w' => e = .returned (.tuple #[.int .i64 (ptR (x.w - d) x.h),.bool (ptB (x.w - d) x.h 1000)]) ∧ w' = (w.alloc (.cells #[.int .i64 x.w,.int .i64 x.s,.int .i64 x.h] 89))) := fun h => part_any _ _ _ ⟨by omega,by have := hx.w; omega⟩ hx.h _
 obtain ⟨h1,h2⟩ := hx.w
 obtain ⟨xw,xs,xh⟩ := x
 simp only at h1 h2 hp1 hp2
 obtain ⟨d1,d2⟩ := hd
 clear hx
 show Calls Tryz.prog 92 #[.agg #[.int .i64 xw,.int .i64 xs,.int .i64 xh],.int .i64 d,.bool l] w _
 unfold raR raB
 simp only
 by_cases e1 : xw = d
 ·rw [if_pos (.inl e1),if_pos (.inl e1)]
  subst e1
  go_enter Tryz.func92,Tryz.ntmps92
  go_wp2_with fail
  go_ret2
  exact ⟨rfl,hB⟩
 ·by_cases e2 : xw < d
  ·cases l with
   | true =>
    rw [if_pos (.inr ⟨e2,rfl⟩),if_pos (.inr ⟨e2,rfl⟩)]
    go_enter Tryz.func92,Tryz.ntmps92
    go_wp2_with fail
    go_ret2
    exact ⟨rfl,hB⟩
   | false =>
    rw [if_neg (by rintro (h | ⟨_,h⟩); exact e1 h; cases h),if_pos e2,if_neg (by rintro (h | ⟨_,h⟩); exact e1 h; cases h),if_pos e2]
    have hp := hp1.out e2
    clear hp1 hp2
    go_enter Tryz.func92,Tryz.ntmps92
    go_wp2_with (go_at_call 125; refine hp.mono ?_; rintro e w' ⟨rfl,rfl⟩)
    go_ret2
    exact ⟨rfl,hB⟩
  ·rw [if_neg (by rintro (h | ⟨h,_⟩); exact e1 h; exact e2 h),if_neg e2,if_neg (by rintro (h | ⟨h,_⟩); exact e1 h; exact e2 h),if_neg e2]
   have hp := hp2.out (by omega)
   have e3 : d < xw := by omega
   clear hp1 hp2
   go_enter Tryz.func92,Tryz.ntmps92
   go_wp2_with (go_at_call 125; refine hp.mono ?_; rintro e w' ⟨rfl,rfl⟩)
   go_ret2
   exact ⟨rfl,hB⟩
end Go.Proofs.YtfndocmgonlhpaaGreatDoor
