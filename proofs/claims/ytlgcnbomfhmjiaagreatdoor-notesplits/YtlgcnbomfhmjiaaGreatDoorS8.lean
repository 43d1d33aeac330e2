/-
  What is proved here: how wide a cluster is, and how much nearer it stands, as wide, isKerned and meet tell it.
  What is proved here: regions of Masses whose operations come up in any order.
  What is proved here: what the closures that narrow a slot answer, and narrow of a list of five of them.
-/
import Derived.Test.YtlgcnbomfhmjiaaGreatDoorS7
import Derived.Test.YtlgcnbomfhmjiaaGreatDoorS1
import Derived.Test.YtlgcnbomfhmjiaaGreatDoorS4
namespace Go.Proofs.YtlgcnbomfhmjiaaGreatDoor
open Go.RowKit Go.Shelf
set_option maxRecDepth 100000
set_option maxHeartbeats 1000000

structure Fc where
 kd : Int
 b : Int
 s : Int
 t : Int
 k : Int
def fcC (f : Fc) : Array Value := #[.int .i64 f.kd,.int .u8 f.b,.int .i64 f.s,.int .i64 f.t,.int .i64 f.k]
def fcV (f : Fc) : Value := .agg (fcC f)
structure Fok (f : Fc) : Prop where
 s : 0 ≤ f.s ∧ f.s ≤ 64
 t : 0 ≤ f.t ∧ f.t ≤ 15
 b : 0 ≤ f.b ∧ f.b < 256
def wdI (f : Fc) (m : ByteArray) : Int := if f.kd = 1 ∨ f.kd = 2 ∨ f.kd = 3 then bw f.b f.s + f.t else if f.kd = 7 then widthI m f.s else 0
def kerB (f : Fc) : Bool := decide (f.k = 1 ∧ (f.kd = 1 ∨ f.kd = 2))
def meetI (a f : Fc) : Int := if kerB a = true ∧ kerB f = true ∧ a.s = f.s then kernI a.b f.b f.s else 0

theorem wide_any (f : Fc) (hf : Fok f) (m : ByteArray) (hm : m.size ≤ 4096) (w : World) : Calls Tryz.prog 124 #[fcV f,.string m] w fun e w' => e = .returned (.int .i64 (wdI f m)) ∧ Below w.heap.size w w' := by
 obtain ⟨kd,b,s,t,k⟩ := f
 obtain ⟨⟨s0,s1⟩,⟨t0,t1⟩,hb⟩ := hf
 simp only at s0 s1 t0 t1 hb
 have hB := (Below.refl w.heap.size w).alloc (Nat.le_refl _) (Obj.cells #[.int .i64 kd,.int .u8 b,.int .i64 s,.int .i64 t,.int .i64 k] 180)
 have hE := em_any b
 obtain ⟨hm0,hm1⟩ := bw_mul b s0 s1
 have hd : (emI b * s).tdiv 8 = emI b * s / 8 := Int.tdiv_eq_ediv_of_nonneg hm0
 have hW := width_any m s s0 s1 hm
 have hvis : Hid ((kd = 1 ∨ kd = 2 ∨ kd = 3) → wdI ⟨kd,b,s,t,k⟩ m = emI b * s / 8 + t) := fun h => if_pos h
 have href : Hid (kd = 7 → wdI ⟨kd,b,s,t,k⟩ m = widthI m s) := fun h => by unfold wdI; simp only; rw [if_neg (by omega),if_pos h]
 have hno : Hid (¬ (kd = 1 ∨ kd = 2 ∨ kd = 3) → kd ≠ 7 → wdI ⟨kd,b,s,t,k⟩ m = 0) := fun h h7 => by unfold wdI; simp only; rw [if_neg h,if_neg h7]
 generalize wdI ⟨kd,b,s,t,k⟩ m = r at *
 show Calls Tryz.prog 124 #[.agg #[.int .i64 kd,.int .u8 b,.int .i64 s,.int .i64 t,.int .i64 k],.string m] w _
 generalize emI b = e0 at *
 by_cases hv : kd = 1 ∨ kd = 2 ∨ kd = 3
 ·have hr := hvis.out hv
  subst hr
  clear hvis href hno hW
  rcases hv with rfl | rfl | rfl
  all_goals
   go_enter Tryz.func124,Tryz.ntmps124
   go_wp2_with fail
   go_quiet (first | (go_at_call 182; refine Calls.quiet_of_same (hE _)))
   go_wp2_with fail
   go_ret
   exact ⟨rfl,below_drewN hB _⟩
 ·by_cases h7 : kd = 7
  ·have hr := href.out h7
   subst hr
   subst h7
   clear hvis href hno hE
   go_enter Tryz.func124,Tryz.ntmps124
   go_wp2_with (go_at_call 180; refine (hW _).mono ?_; rintro e w' ⟨rfl,hww⟩; subst w')
   go_ret
   exact ⟨rfl,hB⟩
  ·have hr := hno.out hv h7
   subst hr
   have f1 : (kd == 1) = false := by simp; omega
   have f2 : (kd == 2) = false := by simp; omega
   have f3 : (kd == 3) = false := by simp; omega
   have f7 : (kd == 7) = false := by simp; omega
   clear hvis href hno hE hW hv h7
   go_enter Tryz.func124,Tryz.ntmps124
   go_wp2_with fail
   go_ret
   exact ⟨rfl,hB⟩

theorem isKerned_any (f : Fc) (w : World) : Calls Tryz.prog 183 #[fcV f] w fun e w' => e = .returned (.bool (kerB f)) ∧ Below w.heap.size w w' := by
 obtain ⟨kd,b,s,t,k⟩ := f
 have hB := (Below.refl w.heap.size w).alloc (Nat.le_refl _) (Obj.cells #[.int .i64 kd,.int .u8 b,.int .i64 s,.int .i64 t,.int .i64 k] 180)
 have hk : kerB ⟨kd,b,s,t,k⟩ = decide (k = 1 ∧ (kd = 1 ∨ kd = 2)) := rfl
 rw [hk]
 show Calls Tryz.prog 183 #[.agg #[.int .i64 kd,.int .u8 b,.int .i64 s,.int .i64 t,.int .i64 k]] w _
 clear hk
 by_cases h1 : k = 1
 ·by_cases h2 : kd = 1
  ·rw [decide_eq_true ⟨h1,.inl h2⟩]
   subst h1 h2
   go_enter Tryz.func183,Tryz.ntmps183
   go_wp2_with fail
   go_ret
   exact ⟨rfl,hB⟩
  ·have f1 : (kd == 1) = false := by simpa using h2
   by_cases h3 : kd = 2
   ·rw [decide_eq_true ⟨h1,.inr h3⟩]
    subst h1 h3
    go_enter Tryz.func183,Tryz.ntmps183
    go_wp2_with fail
    go_ret
    exact ⟨rfl,hB⟩
   ·have f2 : (kd == 2) = false := by simpa using h3
    rw [decide_eq_false (by omega)]
    subst h1
    clear h2 h3
    go_enter Tryz.func183,Tryz.ntmps183
    go_wp2_with fail
    go_ret
    exact ⟨by first | rfl | (congr 2),hB⟩
 ·have f1 : (k == 1) = false := by simpa using h1
  rw [decide_eq_false (by omega)]
  clear h1
  go_enter Tryz.func183,Tryz.ntmps183
  go_wp2_with fail
  go_ret
  exact ⟨rfl,hB⟩

structure FB (w : World) (B : Nat) (f : Fc) : Prop where
 row : w.heap[B]? = some (.cells (fcC f) 180 (0,0))
theorem FB.lt {w : World} {B : Nat} {f : Fc} (h : FB w B f) : B < w.heap.size := (Array.getElem?_eq_some_iff.1 h.row).1
theorem FB.below {w w' : World} {n B : Nat} {f : Fc} (h : FB w B f) (hb : Below n w w') (hn : B < n) : FB w' B f := ⟨(hb.block B hn).trans h.row⟩
theorem FB.turns {X : Nat → Prop} {w w' : World} {B : Nat} {f : Fc} (h : FB w B f) (hb : Turns X w w') (hn : ¬ X B) : FB w' B f := ⟨(hb.block B h.lt hn).trans h.row⟩
theorem FB.new (w : World) (f : Fc) : FB (w.alloc (.cells (fcC f) 180)) w.heap.size f := ⟨World.alloc_heap_new w _⟩
theorem FB.cell {w : World} {B : Nat} {f : Fc} (h : FB w B f) {k : Nat} {v : Value} (hk : (fcC f)[k]? = some v) : w.cell? ⟨B,k,none⟩ = some v := by
 rw [Lib.cell_of_heap h.row,hk]
theorem FB.c1 {w : World} {B : Nat} {f : Fc} (h : FB w B f) : w.cell? ⟨B,1,none⟩ = some (.int .u8 f.b) := h.cell rfl
theorem FB.c2 {w : World} {B : Nat} {f : Fc} (h : FB w B f) : w.cell? ⟨B,2,none⟩ = some (.int .i64 f.s) := h.cell rfl
theorem info68 (f : Fc) : (Tryz.prog.info? 180).map (·.size) = some (fcC f).size := by show _ = some 5; kernel_rfl

theorem meet_any (f g : Fc) (hg : Fok g) (w : World) : Calls Tryz.prog 125 #[fcV f,fcV g] w fun e w' => e = .returned (.int .i64 (meetI f g)) ∧ Below w.heap.size w w' := by
 have hB0 := (Below.refl w.heap.size w).alloc (Nat.le_refl _) (Obj.cells (fcC f) 180)
 have hB := hB0.alloc hB0.size (Obj.cells (fcC g) 180)
 have hF0 := FB.new w f
 have hF : FB ((w.alloc (.cells (fcC f) 180)).alloc (.cells (fcC g) 180)) w.heap.size f := ⟨(Below.heap_alloc _ _ _ (by simp)).trans hF0.row⟩
 have hG : FB ((w.alloc (.cells (fcC f) 180)).alloc (.cells (fcC g) 180)) (w.heap.size + 1) g := by have := FB.new (w.alloc (.cells (fcC f) 180)) g; rwa [World.size_alloc] at this
 have hi := isKerned_any f
 have hj := isKerned_any g
 have hsz : ((w.alloc (.cells (fcC f) 180)).alloc (.cells (fcC g) 180)).heap.size = w.heap.size + 2 := by simp
 unfold fcV at *
 clear hF0 hB0
 generalize hw1 : (w.alloc (.cells (fcC f) 180)).alloc (.cells (fcC g) 180) = w1 at *
 cases h1 : kerB f
 ·have hr : meetI f g = 0 := if_neg (by simp [h1])
  rw [hr]
  rw [h1] at hi
  clear hj hr h1
  go_enter Tryz.func125,Tryz.ntmps125
  go_wp2_with (refine wpList_load_row rfl 180 _ rfl w.heap.size rfl 180 _ (0,0) _ hF.row Tryz.underlying180 rfl (info68 f) ?_)
  refine (hi _).mono ?_
  rintro e w2 ⟨rfl,hb2⟩
  have hB2 := hB.trans (hb2.mono hB.size)
  go_wp2_with fail
  go_ret
  exact ⟨rfl,hB2⟩
 ·cases h2 : kerB g
  ·have hr : meetI f g = 0 := if_neg (by simp [h2])
   rw [hr]
   rw [h1] at hi
   rw [h2] at hj
   clear hr h1 h2
   go_enter Tryz.func125,Tryz.ntmps125
   go_wp2_with (refine wpList_load_row rfl 180 _ rfl w.heap.size rfl 180 _ (0,0) _ hF.row Tryz.underlying180 rfl (info68 f) ?_)
   refine (hi _).mono ?_
   rintro e w2 ⟨rfl,hb2⟩
   have hB2 := hB.trans (hb2.mono hB.size)
   have hG2 := hG.below hb2 hG.lt
   go_wp2_with (refine wpList_load_want 180 _ rfl (by rfl) (w.heap.size + 1) rfl 180 _ (0,0) _ hG2.row Tryz.underlying180 rfl (info68 g) ?_)
   refine (hj _).mono ?_
   rintro e w3 ⟨rfl,hb3⟩
   have hB3 := hB2.trans (hb3.mono hB2.size)
   go_wp2_with fail
   go_ret
   exact ⟨rfl,hB3⟩
  ·rw [h1] at hi
   rw [h2] at hj
   by_cases h3 : f.s = g.s
   ·have hr : meetI f g = kernI f.b g.b g.s := if_pos ⟨h1,h2,h3⟩
    rw [hr]
    have hK := kern_any f.b g.b g.s hg.s.1 hg.s.2
    have q0 : (f.s != g.s) = false := by simp [h3]
    clear hr h1 h2 h3
    go_enter Tryz.func125,Tryz.ntmps125
    go_wp2_with (refine wpList_load_row rfl 180 _ rfl w.heap.size rfl 180 _ (0,0) _ hF.row Tryz.underlying180 rfl (info68 f) ?_)
    refine (hi _).mono ?_
    rintro e w2 ⟨rfl,hb2⟩
    have hB2 := hB.trans (hb2.mono hB.size)
    have hG2 := hG.below hb2 hG.lt
    have hF2 := hF.below hb2 hF.lt
    go_wp2_with (refine wpList_load_want 180 _ rfl (by rfl) (w.heap.size + 1) rfl 180 _ (0,0) _ hG2.row Tryz.underlying180 rfl (info68 g) ?_)
    refine (hj _).mono ?_
    rintro e w3 ⟨rfl,hb3⟩
    have hB3 := hB2.trans (hb3.mono hB2.size)
    have hG3 := hG2.below hb3 hG2.lt
    have hF3 := hF2.below hb3 hF2.lt
    have c1 := hF3.c1; have c2 := hF3.c2; have d1 := hG3.c1; have d2 := hG3.c2
    clear hG hF hG2 hF2 hG3 hF3
    go_wp2_with (go_at_call 184; refine (hK _).mono ?_; rintro e w' ⟨rfl,hww⟩; subst w')
    go_ret
    exact ⟨rfl,hB3⟩
   ·have hr : meetI f g = 0 := if_neg (by simp [h3])
    rw [hr]
    have q0 : (f.s != g.s) = true := by simp [h3]
    clear hr h1 h2 h3
    go_enter Tryz.func125,Tryz.ntmps125
    go_wp2_with (refine wpList_load_row rfl 180 _ rfl w.heap.size rfl 180 _ (0,0) _ hF.row Tryz.underlying180 rfl (info68 f) ?_)
    refine (hi _).mono ?_
    rintro e w2 ⟨rfl,hb2⟩
    have hB2 := hB.trans (hb2.mono hB.size)
    have hG2 := hG.below hb2 hG.lt
    have hF2 := hF.below hb2 hF.lt
    go_wp2_with (refine wpList_load_want 180 _ rfl (by rfl) (w.heap.size + 1) rfl 180 _ (0,0) _ hG2.row Tryz.underlying180 rfl (info68 g) ?_)
    refine (hj _).mono ?_
    rintro e w3 ⟨rfl,hb3⟩
    have hB3 := hB2.trans (hb3.mono hB2.size)
    have hG3 := hG2.below hb3 hG2.lt
    have hF3 := hF2.below hb3 hF2.lt
    have c1 := hF3.c1; have c2 := hF3.c2; have d1 := hG3.c1; have d2 := hG3.c2
    clear hG hF hG2 hF2 hG3 hF3
    go_wp2_with fail
    go_ret
    exact ⟨rfl,hB3⟩

end Go.Proofs.YtlgcnbomfhmjiaaGreatDoor

namespace Go.Proofs.YtlgcnbomfhmjiaaGreatDoor
open Go.RowKit Go.Shelf
set_option maxRecDepth 100000
set_option maxHeartbeats 1000000

theorem below_drew (w : World) : Below w.heap.size w w.drew := (Below.refl _ _).drew
theorem load_pa {a : Act} {w : World} {B : Nat} {s : Pa} {o : Oper} {x : Operand} (h : PB w B s) (ho : o.op = .load 36 x) (hx : a.eval x = .pointer (some ⟨B,0,none⟩)) : (execOp a.eval o).run Tryz.prog w = .ok (.value (.agg (paC s))) w := by
 have hl := run_loadVar_row (P := Tryz.prog) w B 36 36 (paC s) (0,0) _ h.row Tryz.underlying36 rfl (info34 s)
 simp [execOp,ho,hx,Instr.loadAt,Instr.sureAddr,hl]
theorem load_fc {a : Act} {w : World} {B : Nat} {s : Fc} {o : Oper} {x : Operand} (h : FB w B s) (ho : o.op = .load 180 x) (hx : a.eval x = .pointer (some ⟨B,0,none⟩)) : (execOp a.eval o).run Tryz.prog w = .ok (.value (.agg (fcC s))) w := by
 have hl := run_loadVar_row (P := Tryz.prog) w B 180 180 (fcC s) (0,0) _ h.row Tryz.underlying180 rfl (info68 s)
 simp [execOp,ho,hx,Instr.loadAt,Instr.sureAddr,hl]
structure CB (W : World) (B : Nat) (a b c : Int) : Prop where
 row : W.heap[B]? = some (.cells #[.int .i64 a,.int .i64 b,.int .i64 c] 182 (0,0))
theorem CB.lt {w : World} {B : Nat} {a b c : Int} (h : CB w B a b c) : B < w.heap.size := (Array.getElem?_eq_some_iff.1 h.row).1
theorem CB.turns {X : Nat → Prop} {w w' : World} {B : Nat} {a b c : Int} (h : CB w B a b c) (hb : Turns X w w') (hn : ¬ X B) : CB w' B a b c := ⟨(hb.block B h.lt hn).trans h.row⟩
theorem CB.below {n : Nat} {w w' : World} {B : Nat} {a b c : Int} (h : CB w B a b c) (hb : Below n w w') (hn : B < n) : CB w' B a b c := ⟨(hb.block B hn).trans h.row⟩
theorem CB.c0 {W : World} {B : Nat} {a b c : Int} (h : CB W B a b c) : W.cell? ⟨B,0,none⟩ = some (.int .i64 a) := by rw [Lib.cell_of_heap h.row]; rfl
theorem CB.c1 {W : World} {B : Nat} {a b c : Int} (h : CB W B a b c) : W.cell? ⟨B,1,none⟩ = some (.int .i64 b) := by rw [Lib.cell_of_heap h.row]; rfl
theorem CB.c2 {W : World} {B : Nat} {a b c : Int} (h : CB W B a b c) : W.cell? ⟨B,2,none⟩ = some (.int .i64 c) := by rw [Lib.cell_of_heap h.row]; rfl
theorem PB.turns {X : Nat → Prop} {w w' : World} {B : Nat} {a : Pa} (h : PB w B a) (hb : Turns X w w') (hn : ¬ X B) : PB w' B a := ⟨(hb.block B h.lt hn).trans h.row⟩
theorem Turns.setRow {X : Nat → Prop} (W : World) {r : Nat} (hp : X r) (cs : Array Value) : Turns X W (W.setRow r cs) :=
 ⟨rfl,rfl,rfl,by simp,fun k _ hk => setRow_other W r k cs (fun e => hk (e ▸ hp))⟩
def fr17 (v0 v1 v2 v3 v4 v5 v6 v7 v8 v9 xa xb xc xd xe xf xg xh xi xj xk xl xm xn xo xp xq xr xt xu xv xw xx xy xz xA xB xC xD xE xF xG xH xI xJ xK xL xM xN xO xP xQ xR xS xT xU xV xW xX xY xZ ya yb yc yd ye yf yg yh yi yj yk yl ym yn yo yp yq : Value) : Act := { tmps := #[v0,v1,v2,v3,v4,v5,v6,v7,v8,v9,xa,xb,xc,xd,xe,xf,xg,xh,xi,xj,xk,xl,xm,xn,xo,xp,xq,xr,xt,xu,xv,xw,xx,xy,xz,xA,xB,xC,xD,xE,xF,xG,xH,xI,xJ,xK,xL,xM,xN,xO,xP,xQ,xR,xS,xT,xU,xV,xW,xX,xY,xZ,ya,yb,yc,yd,ye,yf,yg,yh,yi,yj,yk,yl,ym,yn,yo,yp,yq],defers := [] }
def ops17_4 (ps : String) : Array Oper := #[⟨some 22,.load 36 (.tmp 1),36,ps,#[],none⟩,⟨some 23,.call ⟨.value (.func 123),#[.tmp 22],#[36]⟩,177,ps,#[⟨0,.data⟩],none⟩,⟨some 24,.fieldAddr 36 (.tmp 1) 4,0,ps,#[⟨4,.gcOnly .lateStores⟩],none⟩,⟨some 25,.load 34 (.tmp 24),34,ps,#[⟨2,.data⟩,⟨4,.gcOnly .lateStores⟩],none⟩,⟨some 6,.assign (.tmp 23),177,ps,#[⟨1,.data⟩,⟨1,.chain⟩,⟨0,.phase⟩,⟨1,.phase⟩,⟨2,.textOnly .lateStores⟩,⟨3,.textOnly .lateStores⟩],none⟩,⟨some 7,.assign (.tmp 25),34,ps,#[⟨3,.data⟩,⟨4,.chain⟩,⟨0,.phase⟩,⟨1,.phase⟩,⟨2,.phase⟩,⟨3,.phase⟩,⟨4,.phase⟩],none⟩]

theorem mass_r4 (Q : Exit → Act → World → Prop) (hQ : ∀ c x (n : Nat) v w,Q (.panic c) (x.put (some n) v) w → Q (.panic c) x w) (id : Nat) (ps : String) {v0 v2 v3 v4 v5 v6 v7 v8 v9 xa xb xc xd xe xf xg xh xi xj xk xl xm xn xo xp xq xr xt xu xv xw xx xy xz xA xB xC xD xE xF xG xH xI xJ xK xL xM xN xO xP xQ xR xS xT xU xV xW xX xY xZ ya yb yc yd ye yf yg yh yi yj yk yl ym yn yo yp yq : Value}
  (B : Nat) (a : Pa) (w0 : World) (hP : PB w0 B a) (hA : PaAt w0 a)
  (hq : ∀ F S Bq w',(w0.heap.size ≤ F ∧ w0.heap.size ≤ S ∧ w0.heap.size ≤ Bq ∧ F < w'.heap.size ∧ S < w'.heap.size ∧ Bq < w'.heap.size) → (a.sp ≠ [] → LkAt a F S Bq 0 w') → Below w0.heap.size w0 w' → Q .normal (fr17 v0 (.pointer (some ⟨B,0,none⟩)) v2 v3 v4 v5 (.func (.func 181) #[] #[.pointer (some ⟨F,0,none⟩),.pointer (some ⟨S,0,none⟩),.pointer (some ⟨Bq,0,none⟩)]) a.mv v8 v9 xa xb xc xd xe xf xg xh xi xj xk xl (.agg (paC a)) (.func (.func 181) #[] #[.pointer (some ⟨F,0,none⟩),.pointer (some ⟨S,0,none⟩),.pointer (some ⟨Bq,0,none⟩)]) (.pointer (some ⟨B,20,none⟩)) a.mv xq xr xt xu xv xw xx xy xz xA xB xC xD xE xF xG xH xI xJ xK xL xM xN xO xP xQ xR xS xT xU xV xW xX xY xZ ya yb yc yd ye yf yg yh yi yj yk yl ym yn yo yp yq) w') :
  (Code.region id (ops17_4 ps) true).wp Tryz.prog Q (fr17 v0 (.pointer (some ⟨B,0,none⟩)) v2 v3 v4 v5 v6 v7 v8 v9 xa xb xc xd xe xf xg xh xi xj xk xl xm xn xo xp xq xr xt xu xv xw xx xy xz xA xB xC xD xE xF xG xH xI xJ xK xL xM xN xO xP xQ xR xS xT xU xV xW xX xY xZ ya yb yc yd ye yf yg yh yi yj yk yl ym yn yo yp yq) w0 := by
 refine wp_region_held (S := fun w => PB w B a ∧ PaAt w a) (by kernel_rfl) ?_
 change wpAnyH _ _ _ _ _ 6 _ _ (World.drew w0)
 have C0 : PB w0.drew B a ∧ PaAt w0.drew a := ⟨hP.below (below_drew w0) hP.lt,hA.below (below_drew w0) (Nat.le_refl _)⟩
 refine take_h (i := 0) (oi := ⟨some 22,.load 36 (.tmp 1),36,ps,#[],none⟩) (fuel := 5) (v := (.agg (paC a))) (fr17 v0 (.pointer (some ⟨B,0,none⟩)) v2 v3 v4 v5 v6 v7 v8 v9 xa xb xc xd xe xf xg xh xi xj xk xl (.agg (paC a)) xn xo xp xq xr xt xu xv xw xx xy xz xA xB xC xD xE xF xG xH xI xJ xK xL xM xN xO xP xQ xR xS xT xU xV xW xX xY xZ ya yb yc yd ye yf yg yh yi yj yk yl ym yn yo yp yq) (by kernel_rfl) (by kernel_rfl) (by kernel_rfl) (by kernel_rfl) (fun c x w => hQ c x _ _ w) (by kernel_rfl) (fun w hS => load_pa (x := (Operand.tmp 1)) hS.1 (by kernel_rfl) (by kernel_rfl)) (by kernel_rfl) C0 ?_
 refine take_h (i := 2) (oi := ⟨some 24,.fieldAddr 36 (.tmp 1) 4,0,ps,#[⟨4,.gcOnly .lateStores⟩],none⟩) (fuel := 4) (v := (.pointer (some ⟨B,20,none⟩))) (fr17 v0 (.pointer (some ⟨B,0,none⟩)) v2 v3 v4 v5 v6 v7 v8 v9 xa xb xc xd xe xf xg xh xi xj xk xl (.agg (paC a)) xn (.pointer (some ⟨B,20,none⟩)) xp xq xr xt xu xv xw xx xy xz xA xB xC xD xE xF xG xH xI xJ xK xL xM xN xO xP xQ xR xS xT xU xV xW xX xY xZ ya yb yc yd ye yf yg yh yi yj yk yl ym yn yo yp yq) (by kernel_rfl) (by kernel_rfl) (by kernel_rfl) (by kernel_rfl) (fun c x w => hQ c x _ _ w) (by kernel_rfl) (fun w hS => by unfold fr17; go_simp) (by kernel_rfl) C0 ?_
 refine take_h (i := 3) (oi := ⟨some 25,.load 34 (.tmp 24),34,ps,#[⟨2,.data⟩,⟨4,.gcOnly .lateStores⟩],none⟩) (fuel := 3) (v := a.mv) (fr17 v0 (.pointer (some ⟨B,0,none⟩)) v2 v3 v4 v5 v6 v7 v8 v9 xa xb xc xd xe xf xg xh xi xj xk xl (.agg (paC a)) xn (.pointer (some ⟨B,20,none⟩)) a.mv xq xr xt xu xv xw xx xy xz xA xB xC xD xE xF xG xH xI xJ xK xL xM xN xO xP xQ xR xS xT xU xV xW xX xY xZ ya yb yc yd ye yf yg yh yi yj yk yl ym yn yo yp yq) (by kernel_rfl) (by kernel_rfl) (by kernel_rfl) (by kernel_rfl) (fun c x w => hQ c x _ _ w) (by kernel_rfl) (fun w hS => by have e := hS.1.c20; unfold fr17; go_simp) (by kernel_rfl) C0 ?_
 refine want_h (i := 1) (oi := ⟨some 23,.call ⟨.value (.func 123),#[.tmp 22],#[36]⟩,177,ps,#[⟨0,.data⟩],none⟩) (fuel := 2) (by kernel_rfl) (by kernel_rfl) (by kernel_rfl) fun K hK => ?_
 unfold fr17
 go_simp
 refine (looks_any a _ C0.2).mono ?_
 rintro e w1 ⟨F,S,Bq,rfl,hbd,hL,B1⟩
 have C1 : PB w1 B a ∧ PaAt w1 a := ⟨C0.1.below B1 C0.1.lt,C0.2.below B1 (Nat.le_refl _)⟩
 refine hK _ _ C1 (cast_h (fr17 v0 (.pointer (some ⟨B,0,none⟩)) v2 v3 v4 v5 v6 v7 v8 v9 xa xb xc xd xe xf xg xh xi xj xk xl (.agg (paC a)) (.func (.func 181) #[] #[.pointer (some ⟨F,0,none⟩),.pointer (some ⟨S,0,none⟩),.pointer (some ⟨Bq,0,none⟩)]) (.pointer (some ⟨B,20,none⟩)) a.mv xq xr xt xu xv xw xx xy xz xA xB xC xD xE xF xG xH xI xJ xK xL xM xN xO xP xQ xR xS xT xU xV xW xX xY xZ ya yb yc yd ye yf yg yh yi yj yk yl ym yn yo yp yq) (by kernel_rfl) ?_)
 clear hK K
 refine take_h (i := 4) (oi := ⟨some 6,.assign (.tmp 23),177,ps,#[⟨1,.data⟩,⟨1,.chain⟩,⟨0,.phase⟩,⟨1,.phase⟩,⟨2,.textOnly .lateStores⟩,⟨3,.textOnly .lateStores⟩],none⟩) (fuel := 1) (v := (.func (.func 181) #[] #[.pointer (some ⟨F,0,none⟩),.pointer (some ⟨S,0,none⟩),.pointer (some ⟨Bq,0,none⟩)])) (fr17 v0 (.pointer (some ⟨B,0,none⟩)) v2 v3 v4 v5 (.func (.func 181) #[] #[.pointer (some ⟨F,0,none⟩),.pointer (some ⟨S,0,none⟩),.pointer (some ⟨Bq,0,none⟩)]) v7 v8 v9 xa xb xc xd xe xf xg xh xi xj xk xl (.agg (paC a)) (.func (.func 181) #[] #[.pointer (some ⟨F,0,none⟩),.pointer (some ⟨S,0,none⟩),.pointer (some ⟨Bq,0,none⟩)]) (.pointer (some ⟨B,20,none⟩)) a.mv xq xr xt xu xv xw xx xy xz xA xB xC xD xE xF xG xH xI xJ xK xL xM xN xO xP xQ xR xS xT xU xV xW xX xY xZ ya yb yc yd ye yf yg yh yi yj yk yl ym yn yo yp yq) (by kernel_rfl) (by kernel_rfl) (by kernel_rfl) (by kernel_rfl) (fun c x w => hQ c x _ _ w) (by kernel_rfl) (fun w _ => by kernel_rfl) (by kernel_rfl) C1 ?_
 refine take_h (i := 5) (oi := ⟨some 7,.assign (.tmp 25),34,ps,#[⟨3,.data⟩,⟨4,.chain⟩,⟨0,.phase⟩,⟨1,.phase⟩,⟨2,.phase⟩,⟨3,.phase⟩,⟨4,.phase⟩],none⟩) (fuel := 0) (v := a.mv) (fr17 v0 (.pointer (some ⟨B,0,none⟩)) v2 v3 v4 v5 (.func (.func 181) #[] #[.pointer (some ⟨F,0,none⟩),.pointer (some ⟨S,0,none⟩),.pointer (some ⟨Bq,0,none⟩)]) a.mv v8 v9 xa xb xc xd xe xf xg xh xi xj xk xl (.agg (paC a)) (.func (.func 181) #[] #[.pointer (some ⟨F,0,none⟩),.pointer (some ⟨S,0,none⟩),.pointer (some ⟨Bq,0,none⟩)]) (.pointer (some ⟨B,20,none⟩)) a.mv xq xr xt xu xv xw xx xy xz xA xB xC xD xE xF xG xH xI xJ xK xL xM xN xO xP xQ xR xS xT xU xV xW xX xY xZ ya yb yc yd ye yf yg yh yi yj yk yl ym yn yo yp yq) (by kernel_rfl) (by kernel_rfl) (by kernel_rfl) (by kernel_rfl) (fun c x w => hQ c x _ _ w) (by kernel_rfl) (fun w _ => by kernel_rfl) (by kernel_rfl) C1 ?_
 exact wpAnyH_done (by kernel_rfl) (hq _ _ _ _ hbd hL ((below_drew w0).trans B1)) _
end Go.Proofs.YtlgcnbomfhmjiaaGreatDoor

namespace Go.Proofs.YtlgcnbomfhmjiaaGreatDoor
open Go.RowKit Go.Shelf
set_option maxRecDepth 100000
set_option maxHeartbeats 4000000

def tkL (r m n : Int) (s : Sl) : Sl := if m ≤ n then s else ⟨min (s.x + r) 4095,max (s.w - r) 0⟩
def tkR (r : Int) (s : Sl) : Sl := ⟨s.x,max (s.w - r) 0⟩
theorem tkL_ok {r m n : Int} {s : Sl} (h : okS s = true) (hr : 0 ≤ r) : okS (tkL r m n s) = true := by
 obtain ⟨⟨h1,h2⟩,h3,h4⟩ := okS_rng h
 unfold tkL
 split
 ·exact h
 ·refine decide_eq_true ?_
  show (0 ≤ min (s.x + r) 4095 ∧ min (s.x + r) 4095 ≤ 4095) ∧ 0 ≤ max (s.w - r) 0 ∧ max (s.w - r) 0 ≤ 4095
  omega
theorem tkR_ok {r : Int} {s : Sl} (h : okS s = true) (hr : 0 ≤ r) : okS (tkR r s) = true := by
 obtain ⟨⟨h1,h2⟩,h3,h4⟩ := okS_rng h
 refine decide_eq_true ?_
 show (0 ≤ s.x ∧ s.x ≤ 4095) ∧ 0 ≤ max (s.w - r) 0 ∧ max (s.w - r) 0 ≤ 4095
 omega
theorem left156 (r m n : Int) (s : Sl) (hs : okS s = true) (hr : 0 ≤ r ∧ r ≤ 1000000) (bl br : Nat) (w : World) (hl : w.heap[bl]? = some (.cells #[.int .i64 m] 3 (0,0))) (hb : w.heap[br]? = some (.cells #[.int .i64 r] 3 (0,0))) :
  Calls Tryz.prog 120 #[.int .i64 n,.agg (slL s).toArray,.pointer (some ⟨bl,0,none⟩),.pointer (some ⟨br,0,none⟩)] w fun e w' => e = .returned (.agg (slL (tkL r m n s)).toArray) ∧ Below w.heap.size w w' := by
 obtain ⟨x,y⟩ := s
 obtain ⟨⟨h1,h2⟩,h3,h4⟩ := okS_rng hs
 simp only at h1 h2 h3 h4
 have hB2 := below2 w (.cells #[.int .i64 x,.int .i64 y] 53) (.cells #[.int .i64 0,.int .i64 0] 53)
 have c0 : ((w.alloc (.cells #[.int .i64 x,.int .i64 y] 53)).alloc (.cells #[.int .i64 0,.int .i64 0] 53)).cell? ⟨bl,0,none⟩ = some (.int .i64 m) := by rw [hB2.cell (Array.getElem?_eq_some_iff.1 hl).1,Lib.cell_of_heap hl]; rfl
 have c1 : ((w.alloc (.cells #[.int .i64 x,.int .i64 y] 53)).alloc (.cells #[.int .i64 0,.int .i64 0] 53)).cell? ⟨br,0,none⟩ = some (.int .i64 r) := by rw [hB2.cell (Array.getElem?_eq_some_iff.1 hb).1,Lib.cell_of_heap hb]; rfl
 clear hl hb hB2 hs
 show Calls Tryz.prog 120 #[.int .i64 n,.agg #[.int .i64 x,.int .i64 y],.pointer (some ⟨bl,0,none⟩),.pointer (some ⟨br,0,none⟩)] w _
 by_cases hm : m ≤ n
 ·have e : tkL r m n ⟨x,y⟩ = ⟨x,y⟩ := if_pos hm
  rw [e]
  clear e
  go_enter Tryz.func120,Tryz.ntmps120
  go_wp2_with fail
  exact bodyPost_ret (results_cell_row rfl _ _ (w.heap.size + 1) 53 _ (0,0) _ rfl (alloc2_heap w _ _) Tryz.underlying53 rfl (info25 _ _)) rfl ⟨rfl,below2 w _ _⟩
 ·have e : tkL r m n ⟨x,y⟩ = ⟨min (x + r) 4095,max (y - r) 0⟩ := if_neg hm
  rw [e]
  clear e
  have hx : min (x + r) 4095 = x + r ∨ (4095 < x + r ∧ min (x + r) 4095 = 4095) := by omega
  have hy : max (y - r) 0 = y - r ∨ (y - r < 0 ∧ max (y - r) 0 = 0) := by omega
  rcases hx with hx | ⟨hx0,hx⟩ <;> rcases hy with hy | ⟨hy0,hy⟩ <;> rw [hx,hy]
  all_goals go_enter Tryz.func120,Tryz.ntmps120
  all_goals go_wp2_with fail
  all_goals refine bodyPost_ret (results_cell_row rfl _ _ (w.heap.size + 1) 53 _ (0,0) _ rfl (alloc2_heap w _ _) Tryz.underlying53 rfl (info25 _ _)) rfl ⟨?_,below2 w _ _⟩
  all_goals first | rfl | (exfalso; omega)
theorem right158 (r n : Int) (s : Sl) (hs : okS s = true) (hr : 0 ≤ r ∧ r ≤ 1000000) (br : Nat) (w : World) (hb : w.heap[br]? = some (.cells #[.int .i64 r] 3 (0,0))) :
  Calls Tryz.prog 122 #[.int .i64 n,.agg (slL s).toArray,.pointer (some ⟨br,0,none⟩)] w fun e w' => e = .returned (.agg (slL (tkR r s)).toArray) ∧ Below w.heap.size w w' := by
 obtain ⟨x,y⟩ := s
 obtain ⟨⟨h1,h2⟩,h3,h4⟩ := okS_rng hs
 simp only at h1 h2 h3 h4
 have hB2 := below2 w (.cells #[.int .i64 x,.int .i64 y] 53) (.cells #[.int .i64 0,.int .i64 0] 53)
 have c1 : ((w.alloc (.cells #[.int .i64 x,.int .i64 y] 53)).alloc (.cells #[.int .i64 0,.int .i64 0] 53)).cell? ⟨br,0,none⟩ = some (.int .i64 r) := by rw [hB2.cell (Array.getElem?_eq_some_iff.1 hb).1,Lib.cell_of_heap hb]; rfl
 clear hb hB2 hs
 show Calls Tryz.prog 122 #[.int .i64 n,.agg #[.int .i64 x,.int .i64 y],.pointer (some ⟨br,0,none⟩)] w _
 have e : tkR r ⟨x,y⟩ = ⟨x,max (y - r) 0⟩ := rfl
 rw [e]
 clear e
 have hy : max (y - r) 0 = y - r ∨ (y - r < 0 ∧ max (y - r) 0 = 0) := by omega
 rcases hy with hy | ⟨hy0,hy⟩ <;> rw [hy]
 all_goals go_enter Tryz.func122,Tryz.ntmps122
 all_goals go_wp2_with fail
 all_goals refine bodyPost_ret (results_cell_row rfl _ _ (w.heap.size + 1) 53 _ (0,0) _ rfl (alloc2_heap w _ _) Tryz.underlying53 rfl (info25 _ _)) rfl ⟨?_,below2 w _ _⟩
 all_goals first | rfl | (exfalso; omega)
structure Tk where
 r0 : Int
 r1 : Int
 r2 : Int
 r3 : Int
 r4 : Int
 d : Int
 m : Int
def Tk.ok (q : Tk) : Prop := (0 ≤ q.r0 ∧ q.r0 ≤ 1000000) ∧ (0 ≤ q.r1 ∧ q.r1 ≤ 1000000) ∧ (0 ≤ q.r2 ∧ q.r2 ≤ 1000000) ∧ (0 ≤ q.r3 ∧ q.r3 ≤ 1000000) ∧ (0 ≤ q.r4 ∧ q.r4 ≤ 1000000)
def tkF (q : Tk) (n : Int) (k : Nat) (s : Sl) : Sl := match k with
 | 0 => tkL q.r0 q.m n s
 | 1 => tkL q.r1 1 n s
 | 2 => tkL q.r2 1 n s
 | 3 => tkL q.r3 q.d n s
 | _ => tkR q.r4 s
def tkI (q : Tk) (n : Int) (s : Sl) : Nat → Sl
 | 0 => s
 | k + 1 => tkF q n k (tkI q n s k)
theorem tkF_ok {q : Tk} (hq : q.ok) {n : Int} {k : Nat} {s : Sl} (h : okS s = true) : okS (tkF q n k s) = true := by
 unfold tkF
 split
 ·exact tkL_ok h hq.1.1
 ·exact tkL_ok h hq.2.1.1
 ·exact tkL_ok h hq.2.2.1.1
 ·exact tkL_ok h hq.2.2.2.1.1
 ·exact tkR_ok h hq.2.2.2.2.1
theorem tkI_ok {q : Tk} (hq : q.ok) {n : Int} {s : Sl} (h : okS s = true) : ∀ k,okS (tkI q n s k) = true
 | 0 => h
 | k + 1 => tkF_ok hq (tkI_ok hq h k)
def clL (a b : Nat) : Value := .func (.func 120) #[] #[.pointer (some ⟨a,0,none⟩),.pointer (some ⟨b,0,none⟩)]
def clR (b : Nat) : Value := .func (.func 122) #[] #[.pointer (some ⟨b,0,none⟩)]
def IntAt (W : World) (b : Nat) (x : Int) : Prop := W.heap[b]? = some (.cells #[.int .i64 x] 3 (0,0))
theorem IntAt.below {W W' : World} {b : Nat} {x : Int} (h : IntAt W b x) {n : Nat} (hb : Below n W W') (hn : W.heap.size ≤ n) : IntAt W' b x := (hb.block b (by have := (Array.getElem?_eq_some_iff.1 h).1; omega)).trans h
structure ClL (W : World) (v : Value) (r m : Int) : Prop where
 ex : ∃ a b,v = clL a b ∧ IntAt W a m ∧ IntAt W b r
structure ClR (W : World) (v : Value) (r : Int) : Prop where
 ex : ∃ b,v = clR b ∧ IntAt W b r
theorem ClL.below {W W' : World} {v : Value} {r m : Int} (h : ClL W v r m) {n : Nat} (hb : Below n W W') (hn : W.heap.size ≤ n) : ClL W' v r m := by
 obtain ⟨a,b,rfl,h1,h2⟩ := h.ex
 exact ⟨a,b,rfl,h1.below hb hn,h2.below hb hn⟩
theorem ClR.below {W W' : World} {v : Value} {r : Int} (h : ClR W v r) {n : Nat} (hb : Below n W W') (hn : W.heap.size ≤ n) : ClR W' v r := by
 obtain ⟨b,rfl,h1⟩ := h.ex
 exact ⟨b,rfl,h1.below hb hn⟩
structure TkAt (W : World) (v : Value) (q : Tk) : Prop where
 ex : ∃ g c0 c1 c2 c3 c4,v = .slice (some ⟨g,0,none⟩) 5 5 ∧ W.heap[g]? = some (.cells #[c0,c1,c2,c3,c4] 126 (0,0)) ∧ ClL W c0 q.r0 q.m ∧ ClL W c1 q.r1 1 ∧ ClL W c2 q.r2 1 ∧ ClL W c3 q.r3 q.d ∧ ClR W c4 q.r4
theorem TkAt.below {W W' : World} {v : Value} {q : Tk} (h : TkAt W v q) {n : Nat} (hb : Below n W W') (hn : W.heap.size ≤ n) : TkAt W' v q := by
 obtain ⟨g,c0,c1,c2,c3,c4,rfl,h0,h1,h2,h3,h4,h5⟩ := h.ex
 exact ⟨g,c0,c1,c2,c3,c4,rfl,(hb.block g (by have := (Array.getElem?_eq_some_iff.1 h0).1; omega)).trans h0,h1.below hb hn,h2.below hb hn,h3.below hb hn,h4.below hb hn,h5.below hb hn⟩
structure NwI (z : World) (s : Sl) (W : World) : Prop where
 low : Below z.heap.size z W
 s0 : W.heap[z.heap.size]? = some (.cells (slL s).toArray 53 (0,0))
 s1 : W.heap[z.heap.size + 1]? = some (.cells #[.int .i64 0,.int .i64 0] 53 (0,0))
theorem NwI.lt {z : World} {s : Sl} {W : World} (h : NwI z s W) : z.heap.size + 1 < W.heap.size := (Array.getElem?_eq_some_iff.1 h.s1).1
theorem NwI.next {z : World} {s : Sl} {W W' : World} (h : NwI z s W) (hb : Below W.heap.size W W') : NwI z s W' :=
 ⟨h.low.trans (hb.mono h.low.size),(hb.block _ (by have := h.lt; omega)).trans h.s0,(hb.block _ h.lt).trans h.s1⟩
theorem NwI.set {z : World} {s : Sl} {W : World} (h : NwI z s W) (q : Sl) : NwI z q (W.setRow z.heap.size (slL q).toArray) := by
 have hT := Turns.setRow (X := fun k => k = z.heap.size) W rfl (slL q).toArray
 have := h.lt
 exact ⟨h.low.trans (hT.below h.low.size (fun k hk => by omega)),setRow_heap _ _ _ _ _ _ h.s0,(hT.block _ (by omega) (by omega)).trans h.s1⟩
theorem info25t (q : Sl) : (Tryz.prog.info? 53).map (·.size) = some (slL q).toArray.size := by show _ = some 2; kernel_rfl
theorem slt_all (q : Sl) : (slL q).toArray.all (·.oneCell') = true := all_oneCell_toArray (fun u hu => by simp [slL] at hu; rcases hu with rfl | rfl <;> rfl)
theorem narrow_any (v : Value) (q : Tk) (hq : q.ok) (n : Int) (s : Sl) (hs : okS s = true) (w : World) (hT : TkAt w v q) :
  Calls Tryz.prog 52 #[v,.int .i64 n,.agg (slL s).toArray] w fun e w' => e = .returned (.agg (slL (tkI q n s 5)).toArray) ∧ Below w.heap.size w w' := by
 have hI0 : Hid (NwI w s ((w.alloc (.cells #[.int .i64 s.x,.int .i64 s.w] 53)).alloc (.cells #[.int .i64 0,.int .i64 0] 53))) := ⟨below2 w _ _,by
  have := (below2 w (.cells #[.int .i64 s.x,.int .i64 s.w] 53) (.cells #[.int .i64 0,.int .i64 0] 53))
  exact (Below.heap_alloc _ _ _ (by simp)).trans (World.alloc_heap_new w _),alloc2_heap w _ _⟩
 obtain ⟨g,c0,c1,c2,c3,c4,rfl,h0,h1,h2,h3,h4,h5⟩ := hT.ex
 have hg := (Array.getElem?_eq_some_iff.1 h0).1
 have hcell : Hid (∀ W,Below w.heap.size w W → W.cell? ⟨g,0,none⟩ = some c0 ∧ W.cell? ⟨g,1,none⟩ = some c1 ∧ W.cell? ⟨g,2,none⟩ = some c2 ∧ W.cell? ⟨g,3,none⟩ = some c3 ∧ W.cell? ⟨g,4,none⟩ = some c4) := fun W hW => by
  have k := (hW.block g hg).trans h0
  exact ⟨by rw [Lib.cell_of_heap k]; rfl,by rw [Lib.cell_of_heap k]; rfl,by rw [Lib.cell_of_heap k]; rfl,by rw [Lib.cell_of_heap k]; rfl,by rw [Lib.cell_of_heap k]; rfl⟩
 have hok : Hid (∀ k,okS (tkI q n s k) = true) := tkI_ok hq hs
 obtain ⟨a0,b0,rfl,l0,m0⟩ := h1.ex
 obtain ⟨a1,b1,rfl,l1,m1⟩ := h2.ex
 obtain ⟨a2,b2,rfl,l2,m2⟩ := h3.ex
 obtain ⟨a3,b3,rfl,l3,m3⟩ := h4.ex
 obtain ⟨b4,rfl,m4⟩ := h5.ex
 have hc0 : Hid (∀ W,Below w.heap.size w W → Calls Tryz.prog 120 #[.int .i64 n,.agg #[.int .i64 (tkI q n s 0).x,.int .i64 (tkI q n s 0).w],.pointer (some ⟨a0,0,none⟩),.pointer (some ⟨b0,0,none⟩)] W fun e w' => e = .returned (.agg (slL (tkI q n s 1)).toArray) ∧ Below W.heap.size W w') := fun W hW => left156 _ _ _ _ (hok.out 0) hq.1 _ _ _ (l0.below hW (Nat.le_refl _)) (m0.below hW (Nat.le_refl _))
 have hc1 : Hid (∀ W,Below w.heap.size w W → Calls Tryz.prog 120 #[.int .i64 n,.agg #[.int .i64 (tkI q n s 1).x,.int .i64 (tkI q n s 1).w],.pointer (some ⟨a1,0,none⟩),.pointer (some ⟨b1,0,none⟩)] W fun e w' => e = .returned (.agg (slL (tkI q n s 2)).toArray) ∧ Below W.heap.size W w') := fun W hW => left156 _ _ _ _ (hok.out 1) hq.2.1 _ _ _ (l1.below hW (Nat.le_refl _)) (m1.below hW (Nat.le_refl _))
 have hc2 : Hid (∀ W,Below w.heap.size w W → Calls Tryz.prog 120 #[.int .i64 n,.agg #[.int .i64 (tkI q n s 2).x,.int .i64 (tkI q n s 2).w],.pointer (some ⟨a2,0,none⟩),.pointer (some ⟨b2,0,none⟩)] W fun e w' => e = .returned (.agg (slL (tkI q n s 3)).toArray) ∧ Below W.heap.size W w') := fun W hW => left156 _ _ _ _ (hok.out 2) hq.2.2.1 _ _ _ (l2.below hW (Nat.le_refl _)) (m2.below hW (Nat.le_refl _))
 have hc3 : Hid (∀ W,Below w.heap.size w W → Calls Tryz.prog 120 #[.int .i64 n,.agg #[.int .i64 (tkI q n s 3).x,.int .i64 (tkI q n s 3).w],.pointer (some ⟨a3,0,none⟩),.pointer (some ⟨b3,0,none⟩)] W fun e w' => e = .returned (.agg (slL (tkI q n s 4)).toArray) ∧ Below W.heap.size W w') := fun W hW => left156 _ _ _ _ (hok.out 3) hq.2.2.2.1 _ _ _ (l3.below hW (Nat.le_refl _)) (m3.below hW (Nat.le_refl _))
 have hc4 : Hid (∀ W,Below w.heap.size w W → Calls Tryz.prog 122 #[.int .i64 n,.agg #[.int .i64 (tkI q n s 4).x,.int .i64 (tkI q n s 4).w],.pointer (some ⟨b4,0,none⟩)] W fun e w' => e = .returned (.agg (slL (tkI q n s 5)).toArray) ∧ Below W.heap.size W w') := fun W hW => right158 _ _ _ (hok.out 4) hq.2.2.2.2 _ _ (m4.below hW (Nat.le_refl _))
 clear h0 h1 h2 h3 h4 h5 l0 m0 l1 m1 l2 m2 l3 m3 m4 hT hs hq hok
 unfold clL clR at hcell
 show Calls Tryz.prog 52 #[.slice (some ⟨g,0,none⟩) 5 5,.int .i64 n,.agg #[.int .i64 s.x,.int .i64 s.w]] w _
 go_enter Tryz.func52,Tryz.ntmps52
 go_wp2_with fail
 generalize (w.alloc (.cells #[.int .i64 s.x,.int .i64 s.w] 53)).alloc (.cells #[.int .i64 0,.int .i64 0] 53) = wz at *
 go_wp2_with fail
 go_loopw [11] (fun v11 wr => ∃ k : Nat,k ≤ 5 ∧ v11 = .int .i64 k ∧ Hid (NwI w (tkI q n s k) wr)) (fun v11 _ => 5 - (intOf v11).toNat)
 case atStart => exact ⟨0,by omega,rfl,hI0⟩
 case round =>
  obtain ⟨k,hk,rfl,hI⟩ := hrel
  clear hI0
  have i0 : wr.cell? ⟨w.heap.size,0,none⟩ = some (.int .i64 (tkI q n s k).x) := by rw [Lib.cell_of_heap hI.out.s0]; rfl
  have i1 : wr.cell? ⟨w.heap.size,1,none⟩ = some (.int .i64 (tkI q n s k).w) := by rw [Lib.cell_of_heap hI.out.s0]; rfl
  have hk6 : k = 0 ∨ k = 1 ∨ k = 2 ∨ k = 3 ∨ k = 4 ∨ k = 5 := by omega
  obtain ⟨d0,d1,d2,d3,d4⟩ := hcell.out wr hI.out.low
  clear hcell
  rcases hk6 with rfl | rfl | rfl | rfl | rfl | rfl
  ·have hc : Hid (Calls Tryz.prog 120 #[.int .i64 n,.agg #[.int .i64 (tkI q n s 0).x,.int .i64 (tkI q n s 0).w],.pointer (some ⟨a0,0,none⟩),.pointer (some ⟨b0,0,none⟩)] wr fun e w' => e = .returned (.agg (slL (tkI q n s 1)).toArray) ∧ Below wr.heap.size wr w') := hc0.out wr hI.out.low
   clear hc1 d1 hc2 d2 hc3 d3 hc4 d4 hc0
   generalize (tkI q n s 0).x = x0 at *
   generalize (tkI q n s 0).w = y0 at *
   go_wp2_with (first | (go_at_call 120; refine hc.out.mono ?_; rintro e w4 ⟨rfl,hb4⟩; have hI4 : Hid (NwI w (tkI q n s 0) w4) := hI.out.next hb4; have hz4 : w4.heap[w.heap.size]? = some (.cells (slL (tkI q n s 0)).toArray 53 (0,0)) := hI4.out.s0; clear hb4 hI hc) | (refine wpList_store_row rfl 53 _ _ rfl w.heap.size (slL (tkI q n s 1)).toArray rfl rfl 53 _ hz4 (info25t _) rfl (slt_all _) ?_))
   exact ⟨⟨1,by omega,rfl,hI4.out.set _⟩,by decide⟩
  ·have hc : Hid (Calls Tryz.prog 120 #[.int .i64 n,.agg #[.int .i64 (tkI q n s 1).x,.int .i64 (tkI q n s 1).w],.pointer (some ⟨a1,0,none⟩),.pointer (some ⟨b1,0,none⟩)] wr fun e w' => e = .returned (.agg (slL (tkI q n s 2)).toArray) ∧ Below wr.heap.size wr w') := hc1.out wr hI.out.low
   clear hc0 d0 hc2 d2 hc3 d3 hc4 d4 hc1
   generalize (tkI q n s 1).x = x0 at *
   generalize (tkI q n s 1).w = y0 at *
   go_wp2_with (first | (go_at_call 120; refine hc.out.mono ?_; rintro e w4 ⟨rfl,hb4⟩; have hI4 : Hid (NwI w (tkI q n s 1) w4) := hI.out.next hb4; have hz4 : w4.heap[w.heap.size]? = some (.cells (slL (tkI q n s 1)).toArray 53 (0,0)) := hI4.out.s0; clear hb4 hI hc) | (refine wpList_store_row rfl 53 _ _ rfl w.heap.size (slL (tkI q n s 2)).toArray rfl rfl 53 _ hz4 (info25t _) rfl (slt_all _) ?_))
   exact ⟨⟨2,by omega,rfl,hI4.out.set _⟩,by decide⟩
  ·have hc : Hid (Calls Tryz.prog 120 #[.int .i64 n,.agg #[.int .i64 (tkI q n s 2).x,.int .i64 (tkI q n s 2).w],.pointer (some ⟨a2,0,none⟩),.pointer (some ⟨b2,0,none⟩)] wr fun e w' => e = .returned (.agg (slL (tkI q n s 3)).toArray) ∧ Below wr.heap.size wr w') := hc2.out wr hI.out.low
   clear hc0 d0 hc1 d1 hc3 d3 hc4 d4 hc2
   generalize (tkI q n s 2).x = x0 at *
   generalize (tkI q n s 2).w = y0 at *
   go_wp2_with (first | (go_at_call 120; refine hc.out.mono ?_; rintro e w4 ⟨rfl,hb4⟩; have hI4 : Hid (NwI w (tkI q n s 2) w4) := hI.out.next hb4; have hz4 : w4.heap[w.heap.size]? = some (.cells (slL (tkI q n s 2)).toArray 53 (0,0)) := hI4.out.s0; clear hb4 hI hc) | (refine wpList_store_row rfl 53 _ _ rfl w.heap.size (slL (tkI q n s 3)).toArray rfl rfl 53 _ hz4 (info25t _) rfl (slt_all _) ?_))
   exact ⟨⟨3,by omega,rfl,hI4.out.set _⟩,by decide⟩
  ·have hc : Hid (Calls Tryz.prog 120 #[.int .i64 n,.agg #[.int .i64 (tkI q n s 3).x,.int .i64 (tkI q n s 3).w],.pointer (some ⟨a3,0,none⟩),.pointer (some ⟨b3,0,none⟩)] wr fun e w' => e = .returned (.agg (slL (tkI q n s 4)).toArray) ∧ Below wr.heap.size wr w') := hc3.out wr hI.out.low
   clear hc0 d0 hc1 d1 hc2 d2 hc4 d4 hc3
   generalize (tkI q n s 3).x = x0 at *
   generalize (tkI q n s 3).w = y0 at *
   go_wp2_with (first | (go_at_call 120; refine hc.out.mono ?_; rintro e w4 ⟨rfl,hb4⟩; have hI4 : Hid (NwI w (tkI q n s 3) w4) := hI.out.next hb4; have hz4 : w4.heap[w.heap.size]? = some (.cells (slL (tkI q n s 3)).toArray 53 (0,0)) := hI4.out.s0; clear hb4 hI hc) | (refine wpList_store_row rfl 53 _ _ rfl w.heap.size (slL (tkI q n s 4)).toArray rfl rfl 53 _ hz4 (info25t _) rfl (slt_all _) ?_))
   exact ⟨⟨4,by omega,rfl,hI4.out.set _⟩,by decide⟩
  ·have hc : Hid (Calls Tryz.prog 122 #[.int .i64 n,.agg #[.int .i64 (tkI q n s 4).x,.int .i64 (tkI q n s 4).w],.pointer (some ⟨b4,0,none⟩)] wr fun e w' => e = .returned (.agg (slL (tkI q n s 5)).toArray) ∧ Below wr.heap.size wr w') := hc4.out wr hI.out.low
   clear hc0 d0 hc1 d1 hc2 d2 hc3 d3 hc4
   generalize (tkI q n s 4).x = x0 at *
   generalize (tkI q n s 4).w = y0 at *
   go_wp2_with (first | (go_at_call 122; refine hc.out.mono ?_; rintro e w4 ⟨rfl,hb4⟩; have hI4 : Hid (NwI w (tkI q n s 4) w4) := hI.out.next hb4; have hz4 : w4.heap[w.heap.size]? = some (.cells (slL (tkI q n s 4)).toArray 53 (0,0)) := hI4.out.s0; clear hb4 hI hc) | (refine wpList_store_row rfl 53 _ _ rfl w.heap.size (slL (tkI q n s 5)).toArray rfl rfl 53 _ hz4 (info25t _) rfl (slt_all _) ?_))
   exact ⟨⟨5,by omega,rfl,hI4.out.set _⟩,by decide⟩
  ·have hz4 : wr.heap[w.heap.size + 1]? = some (.cells #[.int .i64 0,.int .i64 0] 53 (0,0)) := hI.out.s1
   clear hc0 hc1 hc2 hc3 hc4 d0 d1 d2 d3 d4 i0 i1
   have hz0 : wr.heap[w.heap.size]? = some (.cells (slL (tkI q n s 5)).toArray 53 (0,0)) := hI.out.s0
   go_wp2_with (first | (refine wpList_load_row rfl 53 _ rfl w.heap.size rfl 53 _ (0,0) _ hz0 Tryz.underlying53 rfl (info25t _) ?_) | (refine wpList_store_row rfl 53 _ _ rfl (w.heap.size + 1) (slL (tkI q n s 5)).toArray rfl rfl 53 _ hz4 (info25t _) rfl (slt_all _) ?_))
   exact bodyPost_ret (results_cell_row rfl _ _ (w.heap.size + 1) 53 (slL (tkI q n s 5)).toArray (0,0) _ rfl (setRow_heap _ _ _ _ _ _ hz4) Tryz.underlying53 rfl (info25t _)) rfl ⟨rfl,hI.out.low.trans ((Turns.setRow (X := fun k => k = w.heap.size + 1) _ rfl _).below hI.out.low.size (fun k hk => by omega))⟩
end Go.Proofs.YtlgcnbomfhmjiaaGreatDoor
