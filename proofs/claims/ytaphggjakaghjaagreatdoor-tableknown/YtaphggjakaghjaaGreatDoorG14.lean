/-
  What is proved here: what isWide and flag of para answer.
-/
import Derived.Test.YtaphggjakaghjaaGreatDoorG12
import Derived.Test.YtaphggjakaghjaaGreatDoorG13
import Derived.Test.YtaphggjakaghjaaGreatDoorRows
import Derived.Test.YtaphggjakaghjaaGreatDoorG1
import Derived.BigQuiet
import Derived.Handy
import Derived.Test.YtaphggjakaghjaaGreatDoorG8
import Derived.Deep.MidRow
import Derived.Test.YtaphggjakaghjaaGreatDoorG3
import Derived.Test.YtaphggjakaghjaaGreatDoorG4
import Derived.Test.YtaphggjakaghjaaGreatDoorG6
namespace Go.Proofs.YtaphggjakaghjaaGreatDoor
open Go.RowKit Go.Shelf
set_option maxRecDepth 100000
set_option maxHeartbeats 2000000

theorem slice55 (a : Option Addr) (n cap f t : Nat) (h1 : f ≤ t) (h2 : t ≤ cap) : ∃ a',(∀ W,(Instr.slice 111 (.slice a n cap) (some (.int .i64 (f : Int))) (some (.int .i64 (t : Int))) none).run Tryz.prog W = .ok (.slice a' (t - f) (cap - f)) W) ∧ (∀ b o,a = some ⟨b,o,none⟩ → f < t → a' = some ⟨b,o + f * 8,none⟩) := by
 have he : Tryz.prog.elem 111 = 125 := by kernel_rfl
 have hu : Tryz.prog.underlying 111 = some (.slice (Tryz.prog.elem 111)) := by rw [he]; exact Tryz.underlying111
 refine ⟨if cap = f then a else a.map (fun x => x.add (f * 8)),fun W => ?_,fun b o e hlt => ?_⟩
 ·have hr := run_slice_lh (P := Tryz.prog) (w := W) 111 a n cap hu .i64 .i64 f t (by omega) (by omega) (by omega)
  have hs : (sizeOf (Tryz.prog.elem 111)).run Tryz.prog W = .ok 8 W := by kernel_rfl
  rw [hs] at hr
  simpa only [Result.andThen,sliced,Int.toNat_natCast] using hr
 ·rw [if_neg (by omega),e]
  simp [addr_add]
def wdB (l : List It) (x : Pc) (s : Sl) : Bool := decide (s.w + giH (subL l x.a x.b) 0 ((x.b : Int) - x.a) < x.nt)
theorem giH_rng {l : List It} (h : ckL l = 0) (a b : Int) : 0 ≤ giH l a b ∧ giH l a b ≤ 40000000 := by
 unfold giH
 split
 ·rename_i h1
  have h2 := ck_len h
  unfold rfL at h1
  rw [if_neg (by rw [h]; exact fun h => h rfl)] at h1
  split at h1
  ·rename_i h3
   have h4 := shN_le l a.toNat (b.toNat - a.toNat)
   have := (su_rng h (a := a.toNat) (shN l a.toNat (b.toNat - a.toNat)) (by omega)).2
   omega
  ·cases h1
 ·omega
structure WiW (X : Nat) (x : Pc) (s : Sl) (l : List It) (v u : Value) (W : World) : Prop where
 px : W.heap[X]? = some (.cells (pcL x).toArray 122 (0,0))
 ps : W.heap[X + 1]? = some (.cells (slL s).toArray 98 (0,0))
 hl : ItsAt W v l
 hu : ItsAt W u (subL l x.a x.b)
theorem WiW.below {X : Nat} {x : Pc} {s : Sl} {l : List It} {v u : Value} {W W' : World} (h : WiW X x s l v u W) (hb : Below W.heap.size W W') : WiW X x s l v u W' :=
 ⟨(hb.block _ (Array.getElem?_eq_some_iff.1 h.px).1).trans h.px,(hb.block _ (Array.getElem?_eq_some_iff.1 h.ps).1).trans h.ps,h.hl.below hb (Nat.le_refl _),h.hu.below hb (Nat.le_refl _)⟩
theorem WiW.c0 {X : Nat} {x : Pc} {s : Sl} {l : List It} {v u : Value} {W : World} (h : WiW X x s l v u W) : W.cell? ⟨X,0,none⟩ = some (.int .i64 (x.a : Nat)) := (Lib.cell_of_heap h.px _).trans rfl
theorem WiW.c1 {X : Nat} {x : Pc} {s : Sl} {l : List It} {v u : Value} {W : World} (h : WiW X x s l v u W) : W.cell? ⟨X,1,none⟩ = some (.int .i64 (x.b : Nat)) := (Lib.cell_of_heap h.px _).trans rfl
theorem WiW.c4 {X : Nat} {x : Pc} {s : Sl} {l : List It} {v u : Value} {W : World} (h : WiW X x s l v u W) : W.cell? ⟨X,4,none⟩ = some (.int .i64 x.nt) := (Lib.cell_of_heap h.px _).trans rfl
theorem WiW.d1 {X : Nat} {x : Pc} {s : Sl} {l : List It} {v u : Value} {W : World} (h : WiW X x s l v u W) : W.cell? ⟨X + 1,1,none⟩ = some (.int .i64 s.w) := (Lib.cell_of_heap h.ps _).trans rfl
theorem wrap_sm {a b : Nat} (h : a ≤ b ∧ b ≤ 8192) : IntKind.i64.wrap ((b : Int) - a) = (b : Int) - a := by rw [IntKind.wrap_i64]; omega
def frp35 (v0 v1 v2 v3 v4 v5 v6 v7 v8 v9 xa xb xc xd xe xf xg xh xi xj xk xl xm xn xo xp xq xr xt xu xv xw xx : Value) : Act := { tmps := #[v0,v1,v2,v3,v4,v5,v6,v7,v8,v9,xa,xb,xc,xd,xe,xf,xg,xh,xi,xj,xk,xl,xm,xn,xo,xp,xq,xr,xt,xu,xv,xw,xx],defers := [] }
def opp35_1_0 (ps : String) : Oper := ⟨some 11,.move (.tmp 0),111,ps,#[],none⟩
def opp35_1_1 (ps : String) : Oper := ⟨some 12,.fieldAddr 122 (.tmp 4) 0,0,ps,#[],none⟩
def opp35_1_2 (ps : String) : Oper := ⟨some 13,.load 3 (.tmp 12),3,ps,#[⟨1,.data⟩],none⟩
def opp35_1_3 (ps : String) : Oper := ⟨some 14,.fieldAddr 122 (.tmp 4) 1,0,ps,#[],none⟩
def opp35_1_4 (ps : String) : Oper := ⟨some 15,.load 3 (.tmp 14),3,ps,#[⟨3,.data⟩],none⟩
def opp35_1_5 (ps : String) : Oper := ⟨some 16,.slice 111 (.tmp 11) (some (.tmp 13)) (some (.tmp 15)) none,111,ps,#[⟨0,.data⟩,⟨2,.data⟩,⟨4,.data⟩],none⟩
def opp35_1_6 (ps : String) : Oper := ⟨some 17,.fieldAddr 122 (.tmp 4) 1,0,ps,#[],none⟩
def opp35_1_7 (ps : String) : Oper := ⟨some 18,.load 3 (.tmp 17),3,ps,#[⟨6,.data⟩],none⟩
def opp35_1_8 (ps : String) : Oper := ⟨some 19,.fieldAddr 122 (.tmp 4) 0,0,ps,#[],none⟩
def opp35_1_9 (ps : String) : Oper := ⟨some 20,.load 3 (.tmp 19),3,ps,#[⟨8,.data⟩],none⟩
def opp35_1_10 (ps : String) : Oper := ⟨some 21,.binOp .sub 3 (.tmp 18) (.tmp 20) 3,3,ps,#[⟨7,.data⟩,⟨9,.data⟩],none⟩
def opp35_1_11 (ps : String) : Oper := ⟨some 22,.call ⟨.value (.func 109),#[.tmp 16,.const (.int .i64 0),.tmp 21],#[111,3,3]⟩,175,ps,#[⟨5,.data⟩,⟨10,.data⟩],none⟩
def opp35_1_12 (ps : String) : Oper := ⟨some 10,.move (.tmp 22),175,ps,#[⟨11,.data⟩],none⟩
def opp35_1_13 (ps : String) : Oper := ⟨some 23,.extract (.tmp 10) 0,3,ps,#[⟨12,.data⟩],none⟩
def opp35_1_14 (ps : String) : Oper := ⟨some 24,.extract (.tmp 10) 1,3,ps,#[⟨12,.data⟩,⟨16,.gcOnly .lateStores⟩],none⟩
def opp35_1_15 (ps : String) : Oper := ⟨some 25,.extract (.tmp 10) 2,28,ps,#[⟨12,.data⟩,⟨17,.gcOnly .lateStores⟩],none⟩
def opp35_1_16 (ps : String) : Oper := ⟨some 7,.assign (.tmp 23),3,ps,#[⟨13,.data⟩,⟨11,.chain⟩,⟨0,.phase⟩,⟨1,.phase⟩,⟨2,.phase⟩,⟨3,.phase⟩,⟨4,.phase⟩,⟨5,.phase⟩,⟨6,.phase⟩,⟨7,.phase⟩,⟨8,.phase⟩,⟨9,.phase⟩,⟨10,.phase⟩,⟨11,.phase⟩,⟨12,.phase⟩,⟨13,.phase⟩,⟨14,.textOnly .lateStores⟩,⟨15,.textOnly .lateStores⟩],none⟩
def opp35_1_17 (ps : String) : Oper := ⟨some 8,.assign (.tmp 24),3,ps,#[⟨14,.data⟩,⟨16,.chain⟩,⟨0,.phase⟩,⟨1,.phase⟩,⟨2,.phase⟩,⟨3,.phase⟩,⟨4,.phase⟩,⟨5,.phase⟩,⟨6,.phase⟩,⟨7,.phase⟩,⟨8,.phase⟩,⟨9,.phase⟩,⟨10,.phase⟩,⟨11,.phase⟩,⟨12,.phase⟩,⟨13,.phase⟩,⟨14,.phase⟩,⟨15,.textOnly .lateStores⟩,⟨16,.phase⟩],none⟩
def opp35_1_18 (ps : String) : Oper := ⟨some 9,.assign (.tmp 25),28,ps,#[⟨15,.data⟩,⟨17,.chain⟩,⟨0,.phase⟩,⟨1,.phase⟩,⟨2,.phase⟩,⟨3,.phase⟩,⟨4,.phase⟩,⟨5,.phase⟩,⟨6,.phase⟩,⟨7,.phase⟩,⟨8,.phase⟩,⟨9,.phase⟩,⟨10,.phase⟩,⟨11,.phase⟩,⟨12,.phase⟩,⟨13,.phase⟩,⟨14,.phase⟩,⟨15,.phase⟩,⟨16,.phase⟩,⟨17,.phase⟩],none⟩
def opp35_1 (ps : String) : Array Oper := #[opp35_1_0 ps,opp35_1_1 ps,opp35_1_2 ps,opp35_1_3 ps,opp35_1_4 ps,opp35_1_5 ps,opp35_1_6 ps,opp35_1_7 ps,opp35_1_8 ps,opp35_1_9 ps,opp35_1_10 ps,opp35_1_11 ps,opp35_1_12 ps,opp35_1_13 ps,opp35_1_14 ps,opp35_1_15 ps,opp35_1_16 ps,opp35_1_17 ps,opp35_1_18 ps]

theorem wi_r1 (Q : Exit → Act → World → Prop) (hQ : ∀ c x (n : Nat) v w,Q (.panic c) (x.put (some n) v) w → Q (.panic c) x w) (id : Nat) (ps : String) {v1 v2 v3 v6 v7 v8 v9 xa xb xc xd xe xf xg xh xi xj xk xl xm xn xo xp xq xr xt xu xv xw xx : Value} (z : World) (X : Nat) (x : Pc) (s : Sl) (l : List It) (a1 a2 : Option Addr) (cap : Nat) (w : World) (hS : WiW X x s l (.slice a1 l.length cap) (.slice a2 (x.b - x.a) (cap - x.a)) (World.drew w))
  (hz0 : Below z.heap.size z (World.drew w)) (hxb : x.a ≤ x.b ∧ x.b ≤ 8192) (hsl : ∀ W,(Instr.slice 111 (.slice a1 l.length cap) (some (.int .i64 (x.a : Nat))) (some (.int .i64 (x.b : Nat))) none).run Tryz.prog W = .ok (.slice a2 (x.b - x.a) (cap - x.a)) W)
  (hq : ∀ w',Below z.heap.size z w' → (WiW X x s l (.slice a1 l.length cap) (.slice a2 (x.b - x.a) (cap - x.a))) w' → Q .normal (frp35 (.slice a1 l.length cap) v1 v2 v3 (.pointer (some ⟨X,0,none⟩)) (.pointer (some ⟨X + 1,0,none⟩)) v6 (.int .i64 (giS (subL l x.a x.b) 0 ((x.b : Int) - x.a))) (.int .i64 (giH (subL l x.a x.b) 0 ((x.b : Int) - x.a))) (.int .i64 (rfL (subL l x.a x.b) 0 ((x.b : Int) - x.a))) (.tuple #[.int .i64 (giS (subL l x.a x.b) 0 ((x.b : Int) - x.a)),.int .i64 (giH (subL l x.a x.b) 0 ((x.b : Int) - x.a)),.int .i64 (rfL (subL l x.a x.b) 0 ((x.b : Int) - x.a))]) (.slice a1 l.length cap) (.pointer (some ⟨X,0,none⟩)) (.int .i64 (x.a : Nat)) (.pointer (some ⟨X,1,none⟩)) (.int .i64 (x.b : Nat)) (.slice a2 (x.b - x.a) (cap - x.a)) (.pointer (some ⟨X,1,none⟩)) (.int .i64 (x.b : Nat)) (.pointer (some ⟨X,0,none⟩)) (.int .i64 (x.a : Nat)) (.int .i64 ((x.b : Int) - x.a)) (.tuple #[.int .i64 (giS (subL l x.a x.b) 0 ((x.b : Int) - x.a)),.int .i64 (giH (subL l x.a x.b) 0 ((x.b : Int) - x.a)),.int .i64 (rfL (subL l x.a x.b) 0 ((x.b : Int) - x.a))]) (.int .i64 (giS (subL l x.a x.b) 0 ((x.b : Int) - x.a))) (.int .i64 (giH (subL l x.a x.b) 0 ((x.b : Int) - x.a))) (.int .i64 (rfL (subL l x.a x.b) 0 ((x.b : Int) - x.a))) xq xr xt xu xv xw xx) w') :
  (Code.region id (opp35_1 ps) true).wp Tryz.prog Q (frp35 (.slice a1 l.length cap) v1 v2 v3 (.pointer (some ⟨X,0,none⟩)) (.pointer (some ⟨X + 1,0,none⟩)) v6 v7 v8 v9 xa xb xc xd xe xf xg xh xi xj xk xl xm xn xo xp xq xr xt xu xv xw xx) w := by
 refine wp_region_held (S := WiW X x s l (.slice a1 l.length cap) (.slice a2 (x.b - x.a) (cap - x.a))) (by kernel_rfl) ?_
 change wpAnyH _ _ _ _ _ 19 _ _ (World.drew w)
 refine take_h (i := 0) (oi := opp35_1_0 ps) (fuel := 18) (v := (.slice a1 l.length cap)) (frp35 (.slice a1 l.length cap) v1 v2 v3 (.pointer (some ⟨X,0,none⟩)) (.pointer (some ⟨X + 1,0,none⟩)) v6 v7 v8 v9 xa (.slice a1 l.length cap) xc xd xe xf xg xh xi xj xk xl xm xn xo xp xq xr xt xu xv xw xx) (by kernel_rfl) (by kernel_rfl) (by kernel_rfl) (by kernel_rfl) (fun c x w => hQ c x _ _ w) (by kernel_rfl) (fun w _ => by kernel_rfl) (by kernel_rfl) hS ?_
 refine take_h (i := 1) (oi := opp35_1_1 ps) (fuel := 17) (v := (.pointer (some ⟨X,0,none⟩))) (frp35 (.slice a1 l.length cap) v1 v2 v3 (.pointer (some ⟨X,0,none⟩)) (.pointer (some ⟨X + 1,0,none⟩)) v6 v7 v8 v9 xa (.slice a1 l.length cap) (.pointer (some ⟨X,0,none⟩)) xd xe xf xg xh xi xj xk xl xm xn xo xp xq xr xt xu xv xw xx) (by kernel_rfl) (by kernel_rfl) (by kernel_rfl) (by kernel_rfl) (fun c x w => hQ c x _ _ w) (by kernel_rfl) (fun w hS => by unfold frp35 opp35_1_1; go_simp) (by kernel_rfl) hS ?_
 refine take_h (i := 2) (oi := opp35_1_2 ps) (fuel := 16) (v := (.int .i64 (x.a : Nat))) (frp35 (.slice a1 l.length cap) v1 v2 v3 (.pointer (some ⟨X,0,none⟩)) (.pointer (some ⟨X + 1,0,none⟩)) v6 v7 v8 v9 xa (.slice a1 l.length cap) (.pointer (some ⟨X,0,none⟩)) (.int .i64 (x.a : Nat)) xe xf xg xh xi xj xk xl xm xn xo xp xq xr xt xu xv xw xx) (by kernel_rfl) (by kernel_rfl) (by kernel_rfl) (by kernel_rfl) (fun c x w => hQ c x _ _ w) (by kernel_rfl) (fun w hS => by have e := hS.c0; unfold frp35 opp35_1_2; go_simp) (by kernel_rfl) hS ?_
 refine take_h (i := 3) (oi := opp35_1_3 ps) (fuel := 15) (v := (.pointer (some ⟨X,1,none⟩))) (frp35 (.slice a1 l.length cap) v1 v2 v3 (.pointer (some ⟨X,0,none⟩)) (.pointer (some ⟨X + 1,0,none⟩)) v6 v7 v8 v9 xa (.slice a1 l.length cap) (.pointer (some ⟨X,0,none⟩)) (.int .i64 (x.a : Nat)) (.pointer (some ⟨X,1,none⟩)) xf xg xh xi xj xk xl xm xn xo xp xq xr xt xu xv xw xx) (by kernel_rfl) (by kernel_rfl) (by kernel_rfl) (by kernel_rfl) (fun c x w => hQ c x _ _ w) (by kernel_rfl) (fun w hS => by unfold frp35 opp35_1_3; go_simp) (by kernel_rfl) hS ?_
 refine take_h (i := 4) (oi := opp35_1_4 ps) (fuel := 14) (v := (.int .i64 (x.b : Nat))) (frp35 (.slice a1 l.length cap) v1 v2 v3 (.pointer (some ⟨X,0,none⟩)) (.pointer (some ⟨X + 1,0,none⟩)) v6 v7 v8 v9 xa (.slice a1 l.length cap) (.pointer (some ⟨X,0,none⟩)) (.int .i64 (x.a : Nat)) (.pointer (some ⟨X,1,none⟩)) (.int .i64 (x.b : Nat)) xg xh xi xj xk xl xm xn xo xp xq xr xt xu xv xw xx) (by kernel_rfl) (by kernel_rfl) (by kernel_rfl) (by kernel_rfl) (fun c x w => hQ c x _ _ w) (by kernel_rfl) (fun w hS => by have e := hS.c1; unfold frp35 opp35_1_4; go_simp) (by kernel_rfl) hS ?_
 refine take_h (i := 5) (oi := opp35_1_5 ps) (fuel := 13) (v := (.slice a2 (x.b - x.a) (cap - x.a))) (frp35 (.slice a1 l.length cap) v1 v2 v3 (.pointer (some ⟨X,0,none⟩)) (.pointer (some ⟨X + 1,0,none⟩)) v6 v7 v8 v9 xa (.slice a1 l.length cap) (.pointer (some ⟨X,0,none⟩)) (.int .i64 (x.a : Nat)) (.pointer (some ⟨X,1,none⟩)) (.int .i64 (x.b : Nat)) (.slice a2 (x.b - x.a) (cap - x.a)) xh xi xj xk xl xm xn xo xp xq xr xt xu xv xw xx) (by kernel_rfl) (by kernel_rfl) (by kernel_rfl) (by kernel_rfl) (fun c x w => hQ c x _ _ w) (by kernel_rfl) (fun w hS => by have e := hsl w; unfold frp35 opp35_1_5; go_simp) (by kernel_rfl) hS ?_
 refine take_h (i := 6) (oi := opp35_1_6 ps) (fuel := 12) (v := (.pointer (some ⟨X,1,none⟩))) (frp35 (.slice a1 l.length cap) v1 v2 v3 (.pointer (some ⟨X,0,none⟩)) (.pointer (some ⟨X + 1,0,none⟩)) v6 v7 v8 v9 xa (.slice a1 l.length cap) (.pointer (some ⟨X,0,none⟩)) (.int .i64 (x.a : Nat)) (.pointer (some ⟨X,1,none⟩)) (.int .i64 (x.b : Nat)) (.slice a2 (x.b - x.a) (cap - x.a)) (.pointer (some ⟨X,1,none⟩)) xi xj xk xl xm xn xo xp xq xr xt xu xv xw xx) (by kernel_rfl) (by kernel_rfl) (by kernel_rfl) (by kernel_rfl) (fun c x w => hQ c x _ _ w) (by kernel_rfl) (fun w hS => by unfold frp35 opp35_1_6; go_simp) (by kernel_rfl) hS ?_
 refine take_h (i := 7) (oi := opp35_1_7 ps) (fuel := 11) (v := (.int .i64 (x.b : Nat))) (frp35 (.slice a1 l.length cap) v1 v2 v3 (.pointer (some ⟨X,0,none⟩)) (.pointer (some ⟨X + 1,0,none⟩)) v6 v7 v8 v9 xa (.slice a1 l.length cap) (.pointer (some ⟨X,0,none⟩)) (.int .i64 (x.a : Nat)) (.pointer (some ⟨X,1,none⟩)) (.int .i64 (x.b : Nat)) (.slice a2 (x.b - x.a) (cap - x.a)) (.pointer (some ⟨X,1,none⟩)) (.int .i64 (x.b : Nat)) xj xk xl xm xn xo xp xq xr xt xu xv xw xx) (by kernel_rfl) (by kernel_rfl) (by kernel_rfl) (by kernel_rfl) (fun c x w => hQ c x _ _ w) (by kernel_rfl) (fun w hS => by have e := hS.c1; unfold frp35 opp35_1_7; go_simp) (by kernel_rfl) hS ?_
 refine take_h (i := 8) (oi := opp35_1_8 ps) (fuel := 10) (v := (.pointer (some ⟨X,0,none⟩))) (frp35 (.slice a1 l.length cap) v1 v2 v3 (.pointer (some ⟨X,0,none⟩)) (.pointer (some ⟨X + 1,0,none⟩)) v6 v7 v8 v9 xa (.slice a1 l.length cap) (.pointer (some ⟨X,0,none⟩)) (.int .i64 (x.a : Nat)) (.pointer (some ⟨X,1,none⟩)) (.int .i64 (x.b : Nat)) (.slice a2 (x.b - x.a) (cap - x.a)) (.pointer (some ⟨X,1,none⟩)) (.int .i64 (x.b : Nat)) (.pointer (some ⟨X,0,none⟩)) xk xl xm xn xo xp xq xr xt xu xv xw xx) (by kernel_rfl) (by kernel_rfl) (by kernel_rfl) (by kernel_rfl) (fun c x w => hQ c x _ _ w) (by kernel_rfl) (fun w hS => by unfold frp35 opp35_1_8; go_simp) (by kernel_rfl) hS ?_
 refine take_h (i := 9) (oi := opp35_1_9 ps) (fuel := 9) (v := (.int .i64 (x.a : Nat))) (frp35 (.slice a1 l.length cap) v1 v2 v3 (.pointer (some ⟨X,0,none⟩)) (.pointer (some ⟨X + 1,0,none⟩)) v6 v7 v8 v9 xa (.slice a1 l.length cap) (.pointer (some ⟨X,0,none⟩)) (.int .i64 (x.a : Nat)) (.pointer (some ⟨X,1,none⟩)) (.int .i64 (x.b : Nat)) (.slice a2 (x.b - x.a) (cap - x.a)) (.pointer (some ⟨X,1,none⟩)) (.int .i64 (x.b : Nat)) (.pointer (some ⟨X,0,none⟩)) (.int .i64 (x.a : Nat)) xl xm xn xo xp xq xr xt xu xv xw xx) (by kernel_rfl) (by kernel_rfl) (by kernel_rfl) (by kernel_rfl) (fun c x w => hQ c x _ _ w) (by kernel_rfl) (fun w hS => by have e := hS.c0; unfold frp35 opp35_1_9; go_simp) (by kernel_rfl) hS ?_
 refine take_h (i := 10) (oi := opp35_1_10 ps) (fuel := 8) (v := (.int .i64 ((x.b : Int) - x.a))) (frp35 (.slice a1 l.length cap) v1 v2 v3 (.pointer (some ⟨X,0,none⟩)) (.pointer (some ⟨X + 1,0,none⟩)) v6 v7 v8 v9 xa (.slice a1 l.length cap) (.pointer (some ⟨X,0,none⟩)) (.int .i64 (x.a : Nat)) (.pointer (some ⟨X,1,none⟩)) (.int .i64 (x.b : Nat)) (.slice a2 (x.b - x.a) (cap - x.a)) (.pointer (some ⟨X,1,none⟩)) (.int .i64 (x.b : Nat)) (.pointer (some ⟨X,0,none⟩)) (.int .i64 (x.a : Nat)) (.int .i64 ((x.b : Int) - x.a)) xm xn xo xp xq xr xt xu xv xw xx) (by kernel_rfl) (by kernel_rfl) (by kernel_rfl) (by kernel_rfl) (fun c x w => hQ c x _ _ w) (by kernel_rfl) (fun w hS => by unfold frp35 opp35_1_10; go_simp; try exact wrap_sm hxb) (by kernel_rfl) hS ?_
 refine want_h (i := 11) (oi := opp35_1_11 ps) (fuel := 7) (by kernel_rfl) (by kernel_rfl) (by kernel_rfl) fun K hK => ?_
 unfold frp35 opp35_1_11
 go_simp
 refine (give_any (.slice a2 (x.b - x.a) (cap - x.a)) (subL l x.a x.b) 0 ((x.b : Int) - x.a) _ hS.hu).mono ?_
 rintro e w1 ⟨rfl,hb1⟩
 have hS1 : WiW X x s l (.slice a1 l.length cap) (.slice a2 (x.b - x.a) (cap - x.a)) w1 := hS.below hb1
 have hz1 := hz0.trans (hb1.mono hz0.size)
 refine hK _ _ hS1 (cast_h (frp35 (.slice a1 l.length cap) v1 v2 v3 (.pointer (some ⟨X,0,none⟩)) (.pointer (some ⟨X + 1,0,none⟩)) v6 v7 v8 v9 xa (.slice a1 l.length cap) (.pointer (some ⟨X,0,none⟩)) (.int .i64 (x.a : Nat)) (.pointer (some ⟨X,1,none⟩)) (.int .i64 (x.b : Nat)) (.slice a2 (x.b - x.a) (cap - x.a)) (.pointer (some ⟨X,1,none⟩)) (.int .i64 (x.b : Nat)) (.pointer (some ⟨X,0,none⟩)) (.int .i64 (x.a : Nat)) (.int .i64 ((x.b : Int) - x.a)) (.tuple #[.int .i64 (giS (subL l x.a x.b) 0 ((x.b : Int) - x.a)),.int .i64 (giH (subL l x.a x.b) 0 ((x.b : Int) - x.a)),.int .i64 (rfL (subL l x.a x.b) 0 ((x.b : Int) - x.a))]) xn xo xp xq xr xt xu xv xw xx) (by kernel_rfl) ?_)
 clear hK K
 refine take_h (i := 12) (oi := opp35_1_12 ps) (fuel := 6) (v := (.tuple #[.int .i64 (giS (subL l x.a x.b) 0 ((x.b : Int) - x.a)),.int .i64 (giH (subL l x.a x.b) 0 ((x.b : Int) - x.a)),.int .i64 (rfL (subL l x.a x.b) 0 ((x.b : Int) - x.a))])) (frp35 (.slice a1 l.length cap) v1 v2 v3 (.pointer (some ⟨X,0,none⟩)) (.pointer (some ⟨X + 1,0,none⟩)) v6 v7 v8 v9 (.tuple #[.int .i64 (giS (subL l x.a x.b) 0 ((x.b : Int) - x.a)),.int .i64 (giH (subL l x.a x.b) 0 ((x.b : Int) - x.a)),.int .i64 (rfL (subL l x.a x.b) 0 ((x.b : Int) - x.a))]) (.slice a1 l.length cap) (.pointer (some ⟨X,0,none⟩)) (.int .i64 (x.a : Nat)) (.pointer (some ⟨X,1,none⟩)) (.int .i64 (x.b : Nat)) (.slice a2 (x.b - x.a) (cap - x.a)) (.pointer (some ⟨X,1,none⟩)) (.int .i64 (x.b : Nat)) (.pointer (some ⟨X,0,none⟩)) (.int .i64 (x.a : Nat)) (.int .i64 ((x.b : Int) - x.a)) (.tuple #[.int .i64 (giS (subL l x.a x.b) 0 ((x.b : Int) - x.a)),.int .i64 (giH (subL l x.a x.b) 0 ((x.b : Int) - x.a)),.int .i64 (rfL (subL l x.a x.b) 0 ((x.b : Int) - x.a))]) xn xo xp xq xr xt xu xv xw xx) (by kernel_rfl) (by kernel_rfl) (by kernel_rfl) (by kernel_rfl) (fun c x w => hQ c x _ _ w) (by kernel_rfl) (fun w _ => by kernel_rfl) (by kernel_rfl) hS1 ?_
 refine take_h (i := 13) (oi := opp35_1_13 ps) (fuel := 5) (v := (.int .i64 (giS (subL l x.a x.b) 0 ((x.b : Int) - x.a)))) (frp35 (.slice a1 l.length cap) v1 v2 v3 (.pointer (some ⟨X,0,none⟩)) (.pointer (some ⟨X + 1,0,none⟩)) v6 v7 v8 v9 (.tuple #[.int .i64 (giS (subL l x.a x.b) 0 ((x.b : Int) - x.a)),.int .i64 (giH (subL l x.a x.b) 0 ((x.b : Int) - x.a)),.int .i64 (rfL (subL l x.a x.b) 0 ((x.b : Int) - x.a))]) (.slice a1 l.length cap) (.pointer (some ⟨X,0,none⟩)) (.int .i64 (x.a : Nat)) (.pointer (some ⟨X,1,none⟩)) (.int .i64 (x.b : Nat)) (.slice a2 (x.b - x.a) (cap - x.a)) (.pointer (some ⟨X,1,none⟩)) (.int .i64 (x.b : Nat)) (.pointer (some ⟨X,0,none⟩)) (.int .i64 (x.a : Nat)) (.int .i64 ((x.b : Int) - x.a)) (.tuple #[.int .i64 (giS (subL l x.a x.b) 0 ((x.b : Int) - x.a)),.int .i64 (giH (subL l x.a x.b) 0 ((x.b : Int) - x.a)),.int .i64 (rfL (subL l x.a x.b) 0 ((x.b : Int) - x.a))]) (.int .i64 (giS (subL l x.a x.b) 0 ((x.b : Int) - x.a))) xo xp xq xr xt xu xv xw xx) (by kernel_rfl) (by kernel_rfl) (by kernel_rfl) (by kernel_rfl) (fun c x w => hQ c x _ _ w) (by kernel_rfl) (fun w _ => by kernel_rfl) (by kernel_rfl) hS1 ?_
 refine take_h (i := 14) (oi := opp35_1_14 ps) (fuel := 4) (v := (.int .i64 (giH (subL l x.a x.b) 0 ((x.b : Int) - x.a)))) (frp35 (.slice a1 l.length cap) v1 v2 v3 (.pointer (some ⟨X,0,none⟩)) (.pointer (some ⟨X + 1,0,none⟩)) v6 v7 v8 v9 (.tuple #[.int .i64 (giS (subL l x.a x.b) 0 ((x.b : Int) - x.a)),.int .i64 (giH (subL l x.a x.b) 0 ((x.b : Int) - x.a)),.int .i64 (rfL (subL l x.a x.b) 0 ((x.b : Int) - x.a))]) (.slice a1 l.length cap) (.pointer (some ⟨X,0,none⟩)) (.int .i64 (x.a : Nat)) (.pointer (some ⟨X,1,none⟩)) (.int .i64 (x.b : Nat)) (.slice a2 (x.b - x.a) (cap - x.a)) (.pointer (some ⟨X,1,none⟩)) (.int .i64 (x.b : Nat)) (.pointer (some ⟨X,0,none⟩)) (.int .i64 (x.a : Nat)) (.int .i64 ((x.b : Int) - x.a)) (.tuple #[.int .i64 (giS (subL l x.a x.b) 0 ((x.b : Int) - x.a)),.int .i64 (giH (subL l x.a x.b) 0 ((x.b : Int) - x.a)),.int .i64 (rfL (subL l x.a x.b) 0 ((x.b : Int) - x.a))]) (.int .i64 (giS (subL l x.a x.b) 0 ((x.b : Int) - x.a))) (.int .i64 (giH (subL l x.a x.b) 0 ((x.b : Int) - x.a))) xp xq xr xt xu xv xw xx) (by kernel_rfl) (by kernel_rfl) (by kernel_rfl) (by kernel_rfl) (fun c x w => hQ c x _ _ w) (by kernel_rfl) (fun w _ => by kernel_rfl) (by kernel_rfl) hS1 ?_
 refine take_h (i := 15) (oi := opp35_1_15 ps) (fuel := 3) (v := (.int .i64 (rfL (subL l x.a x.b) 0 ((x.b : Int) - x.a)))) (frp35 (.slice a1 l.length cap) v1 v2 v3 (.pointer (some ⟨X,0,none⟩)) (.pointer (some ⟨X + 1,0,none⟩)) v6 v7 v8 v9 (.tuple #[.int .i64 (giS (subL l x.a x.b) 0 ((x.b : Int) - x.a)),.int .i64 (giH (subL l x.a x.b) 0 ((x.b : Int) - x.a)),.int .i64 (rfL (subL l x.a x.b) 0 ((x.b : Int) - x.a))]) (.slice a1 l.length cap) (.pointer (some ⟨X,0,none⟩)) (.int .i64 (x.a : Nat)) (.pointer (some ⟨X,1,none⟩)) (.int .i64 (x.b : Nat)) (.slice a2 (x.b - x.a) (cap - x.a)) (.pointer (some ⟨X,1,none⟩)) (.int .i64 (x.b : Nat)) (.pointer (some ⟨X,0,none⟩)) (.int .i64 (x.a : Nat)) (.int .i64 ((x.b : Int) - x.a)) (.tuple #[.int .i64 (giS (subL l x.a x.b) 0 ((x.b : Int) - x.a)),.int .i64 (giH (subL l x.a x.b) 0 ((x.b : Int) - x.a)),.int .i64 (rfL (subL l x.a x.b) 0 ((x.b : Int) - x.a))]) (.int .i64 (giS (subL l x.a x.b) 0 ((x.b : Int) - x.a))) (.int .i64 (giH (subL l x.a x.b) 0 ((x.b : Int) - x.a))) (.int .i64 (rfL (subL l x.a x.b) 0 ((x.b : Int) - x.a))) xq xr xt xu xv xw xx) (by kernel_rfl) (by kernel_rfl) (by kernel_rfl) (by kernel_rfl) (fun c x w => hQ c x _ _ w) (by kernel_rfl) (fun w _ => by kernel_rfl) (by kernel_rfl) hS1 ?_
 refine take_h (i := 16) (oi := opp35_1_16 ps) (fuel := 2) (v := (.int .i64 (giS (subL l x.a x.b) 0 ((x.b : Int) - x.a)))) (frp35 (.slice a1 l.length cap) v1 v2 v3 (.pointer (some ⟨X,0,none⟩)) (.pointer (some ⟨X + 1,0,none⟩)) v6 (.int .i64 (giS (subL l x.a x.b) 0 ((x.b : Int) - x.a))) v8 v9 (.tuple #[.int .i64 (giS (subL l x.a x.b) 0 ((x.b : Int) - x.a)),.int .i64 (giH (subL l x.a x.b) 0 ((x.b : Int) - x.a)),.int .i64 (rfL (subL l x.a x.b) 0 ((x.b : Int) - x.a))]) (.slice a1 l.length cap) (.pointer (some ⟨X,0,none⟩)) (.int .i64 (x.a : Nat)) (.pointer (some ⟨X,1,none⟩)) (.int .i64 (x.b : Nat)) (.slice a2 (x.b - x.a) (cap - x.a)) (.pointer (some ⟨X,1,none⟩)) (.int .i64 (x.b : Nat)) (.pointer (some ⟨X,0,none⟩)) (.int .i64 (x.a : Nat)) (.int .i64 ((x.b : Int) - x.a)) (.tuple #[.int .i64 (giS (subL l x.a x.b) 0 ((x.b : Int) - x.a)),.int .i64 (giH (subL l x.a x.b) 0 ((x.b : Int) - x.a)),.int .i64 (rfL (subL l x.a x.b) 0 ((x.b : Int) - x.a))]) (.int .i64 (giS (subL l x.a x.b) 0 ((x.b : Int) - x.a))) (.int .i64 (giH (subL l x.a x.b) 0 ((x.b : Int) - x.a))) (.int .i64 (rfL (subL l x.a x.b) 0 ((x.b : Int) - x.a))) xq xr xt xu xv xw xx) (by kernel_rfl) (by kernel_rfl) (by kernel_rfl) (by kernel_rfl) (fun c x w => hQ c x _ _ w) (by kernel_rfl) (fun w _ => by kernel_rfl) (by kernel_rfl) hS1 ?_
 refine take_h (i := 17) (oi := opp35_1_17 ps) (fuel := 1) (v := (.int .i64 (giH (subL l x.a x.b) 0 ((x.b : Int) - x.a)))) (frp35 (.slice a1 l.length cap) v1 v2 v3 (.pointer (some ⟨X,0,none⟩)) (.pointer (some ⟨X + 1,0,none⟩)) v6 (.int .i64 (giS (subL l x.a x.b) 0 ((x.b : Int) - x.a))) (.int .i64 (giH (subL l x.a x.b) 0 ((x.b : Int) - x.a))) v9 (.tuple #[.int .i64 (giS (subL l x.a x.b) 0 ((x.b : Int) - x.a)),.int .i64 (giH (subL l x.a x.b) 0 ((x.b : Int) - x.a)),.int .i64 (rfL (subL l x.a x.b) 0 ((x.b : Int) - x.a))]) (.slice a1 l.length cap) (.pointer (some ⟨X,0,none⟩)) (.int .i64 (x.a : Nat)) (.pointer (some ⟨X,1,none⟩)) (.int .i64 (x.b : Nat)) (.slice a2 (x.b - x.a) (cap - x.a)) (.pointer (some ⟨X,1,none⟩)) (.int .i64 (x.b : Nat)) (.pointer (some ⟨X,0,none⟩)) (.int .i64 (x.a : Nat)) (.int .i64 ((x.b : Int) - x.a)) (.tuple #[.int .i64 (giS (subL l x.a x.b) 0 ((x.b : Int) - x.a)),.int .i64 (giH (subL l x.a x.b) 0 ((x.b : Int) - x.a)),.int .i64 (rfL (subL l x.a x.b) 0 ((x.b : Int) - x.a))]) (.int .i64 (giS (subL l x.a x.b) 0 ((x.b : Int) - x.a))) (.int .i64 (giH (subL l x.a x.b) 0 ((x.b : Int) - x.a))) (.int .i64 (rfL (subL l x.a x.b) 0 ((x.b : Int) - x.a))) xq xr xt xu xv xw xx) (by kernel_rfl) (by kernel_rfl) (by kernel_rfl) (by kernel_rfl) (fun c x w => hQ c x _ _ w) (by kernel_rfl) (fun w _ => by kernel_rfl) (by kernel_rfl) hS1 ?_
 refine take_h (i := 18) (oi := opp35_1_18 ps) (fuel := 0) (v := (.int .i64 (rfL (subL l x.a x.b) 0 ((x.b : Int) - x.a)))) (frp35 (.slice a1 l.length cap) v1 v2 v3 (.pointer (some ⟨X,0,none⟩)) (.pointer (some ⟨X + 1,0,none⟩)) v6 (.int .i64 (giS (subL l x.a x.b) 0 ((x.b : Int) - x.a))) (.int .i64 (giH (subL l x.a x.b) 0 ((x.b : Int) - x.a))) (.int .i64 (rfL (subL l x.a x.b) 0 ((x.b : Int) - x.a))) (.tuple #[.int .i64 (giS (subL l x.a x.b) 0 ((x.b : Int) - x.a)),.int .i64 (giH (subL l x.a x.b) 0 ((x.b : Int) - x.a)),.int .i64 (rfL (subL l x.a x.b) 0 ((x.b : Int) - x.a))]) (.slice a1 l.length cap) (.pointer (some ⟨X,0,none⟩)) (.int .i64 (x.a : Nat)) (.pointer (some ⟨X,1,none⟩)) (.int .i64 (x.b : Nat)) (.slice a2 (x.b - x.a) (cap - x.a)) (.pointer (some ⟨X,1,none⟩)) (.int .i64 (x.b : Nat)) (.pointer (some ⟨X,0,none⟩)) (.int .i64 (x.a : Nat)) (.int .i64 ((x.b : Int) - x.a)) (.tuple #[.int .i64 (giS (subL l x.a x.b) 0 ((x.b : Int) - x.a)),.int .i64 (giH (subL l x.a x.b) 0 ((x.b : Int) - x.a)),.int .i64 (rfL (subL l x.a x.b) 0 ((x.b : Int) - x.a))]) (.int .i64 (giS (subL l x.a x.b) 0 ((x.b : Int) - x.a))) (.int .i64 (giH (subL l x.a x.b) 0 ((x.b : Int) - x.a))) (.int .i64 (rfL (subL l x.a x.b) 0 ((x.b : Int) - x.a))) xq xr xt xu xv xw xx) (by kernel_rfl) (by kernel_rfl) (by kernel_rfl) (by kernel_rfl) (fun c x w => hQ c x _ _ w) (by kernel_rfl) (fun w _ => by kernel_rfl) (by kernel_rfl) hS1 ?_
 exact wpAnyH_done (by kernel_rfl) (hq _ hz1 hS1) _
theorem wide35 (v : Value) (l : List It) (x : Pc) (s : Sl) (hck : ckL l = 0) (hx : x.a ≤ x.b ∧ x.b ≤ l.length) (hs : okS s = true) (w : World) (hS : ItsAt w v l) : Calls Tryz.prog 78 #[v,.agg (pcL x).toArray,.agg (slL s).toArray] w fun e w' => e = .returned (.bool (wdB l x s)) ∧ Below w.heap.size w w' := by
 have hB := below2 w (.cells (pcL x).toArray 122) (.cells (slL s).toArray 98)
 have hl8 := ck_len hck
 have hgr := giH_rng (sub_ck hck (f := x.a) hx.2) 0 ((x.b : Int) - x.a)
 have hsr := okS_rng hs
 obtain ⟨a1,cap,rfl,-⟩ := hS.ex
 have hle := hS.le _ _ _ rfl
 obtain ⟨a2,hsl,ha2⟩ := slice55 a1 l.length cap x.a x.b hx.1 (by omega)
 have hW : Hid (WiW w.heap.size x s l (.slice a1 l.length cap) (.slice a2 (x.b - x.a) (cap - x.a)) ((w.alloc (.cells (pcL x).toArray 122)).alloc (.cells (slL s).toArray 98))) := ⟨(Below.heap_alloc _ _ _ (by simp)).trans (World.alloc_heap_new w _),alloc2_heap w _ _,hS.below hB (Nat.le_refl _),sub_its (hS.below hB (Nat.le_refl _)) hx.1 hx.2 ha2⟩
 have hBh : Hid (Below w.heap.size w ((w.alloc (.cells (pcL x).toArray 122)).alloc (.cells (slL s).toArray 98))) := hB
 have hxh : Hid (x.a ≤ x.b ∧ x.b ≤ 8192) := ⟨hx.1,by omega⟩
 have hslh : Hid (∀ W,(Instr.slice 111 (.slice a1 l.length cap) (some (.int .i64 (x.a : Nat))) (some (.int .i64 (x.b : Nat))) none).run Tryz.prog W = .ok (.slice a2 (x.b - x.a) (cap - x.a)) W) := hsl
 clear hB hS hck hx hle hsl ha2 hl8 hs
 unfold wdB
 go_enter Tryz.func78,Tryz.ntmps78
 go_wp2_with fail
 generalize (w.alloc (.cells (pcL x).toArray 122)).alloc (.cells (slL s).toArray 98) = wz at *
 refine wi_r1 _ (fun _ _ _ _ _ h => h) _ _ w w.heap.size x s l a1 a2 cap wz ⟨hW.out.px,hW.out.ps,hW.out.hl.below (below_drew _) (Nat.le_refl _),hW.out.hu.below (below_drew _) (Nat.le_refl _)⟩ hBh.out.drew hxh.out hslh.out ?_
 intro w3 hz3 hS3
 have e4 := hS3.c4
 have e5 := hS3.d1
 clear hS3 hslh hxh hBh hW
 obtain ⟨gh,hgh⟩ : ∃ gh,gh = giH (subL l x.a x.b) 0 ((x.b : Int) - x.a) := ⟨_,rfl⟩
 rw [← hgh] at hgr ⊢
 have hghh : Hid (gh = giH (subL l x.a x.b) 0 ((x.b : Int) - x.a)) := hgh
 clear hgh
 obtain ⟨g1,g2⟩ := hgr
 obtain ⟨-,s1,s2⟩ := hsr
 unfold frp35
 go_wp2_with fail
 go_ret
 exact ⟨by rw [← hghh.out]; rfl,hz3⟩
theorem flag34 (a b : Bool) (w : World) : Calls Tryz.prog 77 #[.bool a,.bool b] w fun e w' => e = .returned (.int .i64 ((if a then 1 else 0) + (if b then 2 else 0))) ∧ w' = w := by
 cases a <;> cases b
 all_goals go_enter Tryz.func77,Tryz.ntmps77
 all_goals go_wp2_with fail
 all_goals go_ret
 all_goals exact ⟨by simp,rfl⟩
end Go.Proofs.YtaphggjakaghjaaGreatDoor
