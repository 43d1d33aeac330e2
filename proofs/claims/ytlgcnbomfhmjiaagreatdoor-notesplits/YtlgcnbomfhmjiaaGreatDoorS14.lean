/-
  What is proved here: what isWide and flag of para answer.
  What is proved here: what items of para answers.
-/
import Derived.Test.YtlgcnbomfhmjiaaGreatDoorS12
import Derived.Test.YtlgcnbomfhmjiaaGreatDoorS13
import Derived.Test.YtlgcnbomfhmjiaaGreatDoorRows
import Derived.Test.YtlgcnbomfhmjiaaGreatDoorS1
import Derived.BigQuiet
import Derived.Handy
import Derived.Test.YtlgcnbomfhmjiaaGreatDoorS8
import Derived.Deep.MidRow
import Derived.Test.YtlgcnbomfhmjiaaGreatDoorS3
import Derived.Test.YtlgcnbomfhmjiaaGreatDoorS4
import Derived.Test.YtlgcnbomfhmjiaaGreatDoorS6
namespace Go.Proofs.YtlgcnbomfhmjiaaGreatDoor
open Go.RowKit Go.Shelf
set_option maxRecDepth 100000
set_option maxHeartbeats 2000000

theorem slice55 (a : Option Addr) (n cap f t : Nat) (h1 : f ≤ t) (h2 : t ≤ cap) : ∃ a',(∀ W,(Instr.slice 68 (.slice a n cap) (some (.int .i64 (f : Int))) (some (.int .i64 (t : Int))) none).run Tryz.prog W = .ok (.slice a' (t - f) (cap - f)) W) ∧ (∀ b o,a = some ⟨b,o,none⟩ → f < t → a' = some ⟨b,o + f * 8,none⟩) := by
 have he : Tryz.prog.elem 68 = 91 := by kernel_rfl
 have hu : Tryz.prog.underlying 68 = some (.slice (Tryz.prog.elem 68)) := by rw [he]; exact Tryz.underlying68
 refine ⟨if cap = f then a else a.map (fun x => x.add (f * 8)),fun W => ?_,fun b o e hlt => ?_⟩
 ·have hr := run_slice_lh (P := Tryz.prog) (w := W) 68 a n cap hu .i64 .i64 f t (by omega) (by omega) (by omega)
  have hs : (sizeOf (Tryz.prog.elem 68)).run Tryz.prog W = .ok 8 W := by kernel_rfl
  rw [hs] at hr
  simpa only [Result.andThen,sliced,Int.toNat_natCast] using hr
 ·rw [if_neg (by omega),e]
  simp [addr_add]
def wdB (l : List It) (x : Pc) (s : Sl) : Bool := decide (s.w + giH (subL l x.a x.b) 0 ((x.b : Int) - x.a) < x.nt)
theorem giH_rng {l : List It} (h : ckL l = 0) (a b : Int) : 0 ≤ giH l a b ∧ giH l a b ≤ 40000000 := by
 unfold giH
 split
 ·rename_i h1
  have h2 := ck_len h
  unfold rfL at h1
  rw [if_neg (by rw [h]; exact fun h => h rfl)] at h1
  split at h1
  ·rename_i h3
   have h4 := shN_le l a.toNat (b.toNat - a.toNat)
   have := (su_rng h (a := a.toNat) (shN l a.toNat (b.toNat - a.toNat)) (by omega)).2
   omega
  ·cases h1
 ·omega
structure WiW (X : Nat) (x : Pc) (s : Sl) (l : List It) (v u : Value) (W : World) : Prop where
 px : W.heap[X]? = some (.cells (pcL x).toArray 76 (0,0))
 ps : W.heap[X + 1]? = some (.cells (slL s).toArray 53 (0,0))
 hl : ItsAt W v l
 hu : ItsAt W u (subL l x.a x.b)
theorem WiW.below {X : Nat} {x : Pc} {s : Sl} {l : List It} {v u : Value} {W W' : World} (h : WiW X x s l v u W) (hb : Below W.heap.size W W') : WiW X x s l v u W' :=
 ⟨(hb.block _ (Array.getElem?_eq_some_iff.1 h.px).1).trans h.px,(hb.block _ (Array.getElem?_eq_some_iff.1 h.ps).1).trans h.ps,h.hl.below hb (Nat.le_refl _),h.hu.below hb (Nat.le_refl _)⟩
theorem WiW.c0 {X : Nat} {x : Pc} {s : Sl} {l : List It} {v u : Value} {W : World} (h : WiW X x s l v u W) : W.cell? ⟨X,0,none⟩ = some (.int .i64 (x.a : Nat)) := (Lib.cell_of_heap h.px _).trans rfl
theorem WiW.c1 {X : Nat} {x : Pc} {s : Sl} {l : List It} {v u : Value} {W : World} (h : WiW X x s l v u W) : W.cell? ⟨X,1,none⟩ = some (.int .i64 (x.b : Nat)) := (Lib.cell_of_heap h.px _).trans rfl
theorem WiW.c4 {X : Nat} {x : Pc} {s : Sl} {l : List It} {v u : Value} {W : World} (h : WiW X x s l v u W) : W.cell? ⟨X,4,none⟩ = some (.int .i64 x.nt) := (Lib.cell_of_heap h.px _).trans rfl
theorem WiW.d1 {X : Nat} {x : Pc} {s : Sl} {l : List It} {v u : Value} {W : World} (h : WiW X x s l v u W) : W.cell? ⟨X + 1,1,none⟩ = some (.int .i64 s.w) := (Lib.cell_of_heap h.ps _).trans rfl
theorem wrap_sm {a b : Nat} (h : a ≤ b ∧ b ≤ 8192) : IntKind.i64.wrap ((b : Int) - a) = (b : Int) - a := by rw [IntKind.wrap_i64]; omega
def frp35 (v0 v1 v2 v3 v4 v5 v6 v7 v8 v9 xa xb xc xd xe xf xg xh xi xj xk xl xm xn xo xp xq xr xt xu xv xw xx : Value) : Act := { tmps := #[v0,v1,v2,v3,v4,v5,v6,v7,v8,v9,xa,xb,xc,xd,xe,xf,xg,xh,xi,xj,xk,xl,xm,xn,xo,xp,xq,xr,xt,xu,xv,xw,xx],defers := [] }
def opp35_1_0 (ps : String) : Oper := ⟨some 11,.move (.tmp 0),68,ps,#[],none⟩
def opp35_1_1 (ps : String) : Oper := ⟨some 12,.fieldAddr 76 (.tmp 4) 0,0,ps,#[],none⟩
def opp35_1_2 (ps : String) : Oper := ⟨some 13,.load 3 (.tmp 12),3,ps,#[⟨1,.data⟩],none⟩
def opp35_1_3 (ps : String) : Oper := ⟨some 14,.fieldAddr 76 (.tmp 4) 1,0,ps,#[],none⟩
def opp35_1_4 (ps : String) : Oper := ⟨some 15,.load 3 (.tmp 14),3,ps,#[⟨3,.data⟩],none⟩
def opp35_1_5 (ps : String) : Oper := ⟨some 16,.slice 68 (.tmp 11) (some (.tmp 13)) (some (.tmp 15)) none,68,ps,#[⟨0,.data⟩,⟨2,.data⟩,⟨4,.data⟩],none⟩
def opp35_1_6 (ps : String) : Oper := ⟨some 17,.fieldAddr 76 (.tmp 4) 1,0,ps,#[],none⟩
def opp35_1_7 (ps : String) : Oper := ⟨some 18,.load 3 (.tmp 17),3,ps,#[⟨6,.data⟩],none⟩
def opp35_1_8 (ps : String) : Oper := ⟨some 19,.fieldAddr 76 (.tmp 4) 0,0,ps,#[],none⟩
def opp35_1_9 (ps : String) : Oper := ⟨some 20,.load 3 (.tmp 19),3,ps,#[⟨8,.data⟩],none⟩
def opp35_1_10 (ps : String) : Oper := ⟨some 21,.binOp .sub 3 (.tmp 18) (.tmp 20) 3,3,ps,#[⟨7,.data⟩,⟨9,.data⟩],none⟩
def opp35_1_11 (ps : String) : Oper := ⟨some 22,.call ⟨.value (.func 57),#[.tmp 16,.const (.int .i64 0),.tmp 21],#[68,3,3]⟩,97,ps,#[⟨5,.data⟩,⟨10,.data⟩],none⟩
def opp35_1_12 (ps : String) : Oper := ⟨some 10,.move (.tmp 22),97,ps,#[⟨11,.data⟩],none⟩
def opp35_1_13 (ps : String) : Oper := ⟨some 23,.extract (.tmp 10) 0,3,ps,#[⟨12,.data⟩],none⟩
def opp35_1_14 (ps : String) : Oper := ⟨some 24,.extract (.tmp 10) 1,3,ps,#[⟨12,.data⟩,⟨16,.gcOnly .lateStores⟩],none⟩
def opp35_1_15 (ps : String) : Oper := ⟨some 25,.extract (.tmp 10) 2,24,ps,#[⟨12,.data⟩,⟨17,.gcOnly .lateStores⟩],none⟩
def opp35_1_16 (ps : String) : Oper := ⟨some 7,.assign (.tmp 23),3,ps,#[⟨13,.data⟩,⟨11,.chain⟩,⟨0,.phase⟩,⟨1,.phase⟩,⟨2,.phase⟩,⟨3,.phase⟩,⟨4,.phase⟩,⟨5,.phase⟩,⟨6,.phase⟩,⟨7,.phase⟩,⟨8,.phase⟩,⟨9,.phase⟩,⟨10,.phase⟩,⟨11,.phase⟩,⟨12,.phase⟩,⟨13,.phase⟩,⟨14,.textOnly .lateStores⟩,⟨15,.textOnly .lateStores⟩],none⟩
def opp35_1_17 (ps : String) : Oper := ⟨some 8,.assign (.tmp 24),3,ps,#[⟨14,.data⟩,⟨16,.chain⟩,⟨0,.phase⟩,⟨1,.phase⟩,⟨2,.phase⟩,⟨3,.phase⟩,⟨4,.phase⟩,⟨5,.phase⟩,⟨6,.phase⟩,⟨7,.phase⟩,⟨8,.phase⟩,⟨9,.phase⟩,⟨10,.phase⟩,⟨11,.phase⟩,⟨12,.phase⟩,⟨13,.phase⟩,⟨14,.phase⟩,⟨15,.textOnly .lateStores⟩,⟨16,.phase⟩],none⟩
def opp35_1_18 (ps : String) : Oper := ⟨some 9,.assign (.tmp 25),24,ps,#[⟨15,.data⟩,⟨17,.chain⟩,⟨0,.phase⟩,⟨1,.phase⟩,⟨2,.phase⟩,⟨3,.phase⟩,⟨4,.phase⟩,⟨5,.phase⟩,⟨6,.phase⟩,⟨7,.phase⟩,⟨8,.phase⟩,⟨9,.phase⟩,⟨10,.phase⟩,⟨11,.phase⟩,⟨12,.phase⟩,⟨13,.phase⟩,⟨14,.phase⟩,⟨15,.phase⟩,⟨16,.phase⟩,⟨17,.phase⟩],none⟩
def opp35_1 (ps : String) : Array Oper := #[opp35_1_0 ps,opp35_1_1 ps,opp35_1_2 ps,opp35_1_3 ps,opp35_1_4 ps,opp35_1_5 ps,opp35_1_6 ps,opp35_1_7 ps,opp35_1_8 ps,opp35_1_9 ps,opp35_1_10 ps,opp35_1_11 ps,opp35_1_12 ps,opp35_1_13 ps,opp35_1_14 ps,opp35_1_15 ps,opp35_1_16 ps,opp35_1_17 ps,opp35_1_18 ps]

theorem wi_r1 (Q : Exit → Act → World → Prop) (hQ : ∀ c x (n : Nat) v w,Q (.panic c) (x.put (some n) v) w → Q (.panic c) x w) (id : Nat) (ps : String) {v1 v2 v3 v6 v7 v8 v9 xa xb xc xd xe xf xg xh xi xj xk xl xm xn xo xp xq xr xt xu xv xw xx : Value} (z : World) (X : Nat) (x : Pc) (s : Sl) (l : List It) (a1 a2 : Option Addr) (cap : Nat) (w : World) (hS : WiW X x s l (.slice a1 l.length cap) (.slice a2 (x.b - x.a) (cap - x.a)) (World.drew w))
  (hz0 : Below z.heap.size z (World.drew w)) (hxb : x.a ≤ x.b ∧ x.b ≤ 8192) (hsl : ∀ W,(Instr.slice 68 (.slice a1 l.length cap) (some (.int .i64 (x.a : Nat))) (some (.int .i64 (x.b : Nat))) none).run Tryz.prog W = .ok (.slice a2 (x.b - x.a) (cap - x.a)) W)
  (hq : ∀ w',Below z.heap.size z w' → (WiW X x s l (.slice a1 l.length cap) (.slice a2 (x.b - x.a) (cap - x.a))) w' → Q .normal (frp35 (.slice a1 l.length cap) v1 v2 v3 (.pointer (some ⟨X,0,none⟩)) (.pointer (some ⟨X + 1,0,none⟩)) v6 (.int .i64 (giS (subL l x.a x.b) 0 ((x.b : Int) - x.a))) (.int .i64 (giH (subL l x.a x.b) 0 ((x.b : Int) - x.a))) (.int .i64 (rfL (subL l x.a x.b) 0 ((x.b : Int) - x.a))) (.tuple #[.int .i64 (giS (subL l x.a x.b) 0 ((x.b : Int) - x.a)),.int .i64 (giH (subL l x.a x.b) 0 ((x.b : Int) - x.a)),.int .i64 (rfL (subL l x.a x.b) 0 ((x.b : Int) - x.a))]) (.slice a1 l.length cap) (.pointer (some ⟨X,0,none⟩)) (.int .i64 (x.a : Nat)) (.pointer (some ⟨X,1,none⟩)) (.int .i64 (x.b : Nat)) (.slice a2 (x.b - x.a) (cap - x.a)) (.pointer (some ⟨X,1,none⟩)) (.int .i64 (x.b : Nat)) (.pointer (some ⟨X,0,none⟩)) (.int .i64 (x.a : Nat)) (.int .i64 ((x.b : Int) - x.a)) (.tuple #[.int .i64 (giS (subL l x.a x.b) 0 ((x.b : Int) - x.a)),.int .i64 (giH (subL l x.a x.b) 0 ((x.b : Int) - x.a)),.int .i64 (rfL (subL l x.a x.b) 0 ((x.b : Int) - x.a))]) (.int .i64 (giS (subL l x.a x.b) 0 ((x.b : Int) - x.a))) (.int .i64 (giH (subL l x.a x.b) 0 ((x.b : Int) - x.a))) (.int .i64 (rfL (subL l x.a x.b) 0 ((x.b : Int) - x.a))) xq xr xt xu xv xw xx) w') :
  (Code.region id (opp35_1 ps) true).wp Tryz.prog Q (frp35 (.slice a1 l.length cap) v1 v2 v3 (.pointer (some ⟨X,0,none⟩)) (.pointer (some ⟨X + 1,0,none⟩)) v6 v7 v8 v9 xa xb xc xd xe xf xg xh xi xj xk xl xm xn xo xp xq xr xt xu xv xw xx) w := by
 refine wp_region_held (S := WiW X x s l (.slice a1 l.length cap) (.slice a2 (x.b - x.a) (cap - x.a))) (by kernel_rfl) ?_
 change wpAnyH _ _ _ _ _ 19 _ _ (World.drew w)
 refine take_h (i := 0) (oi := opp35_1_0 ps) (fuel := 18) (v := (.slice a1 l.length cap)) (frp35 (.slice a1 l.length cap) v1 v2 v3 (.pointer (some ⟨X,0,none⟩)) (.pointer (some ⟨X + 1,0,none⟩)) v6 v7 v8 v9 xa (.slice a1 l.length cap) xc xd xe xf xg xh xi xj xk xl xm xn xo xp xq xr xt xu xv xw xx) (by kernel_rfl) (by kernel_rfl) (by kernel_rfl) (by kernel_rfl) (fun c x w => hQ c x _ _ w) (by kernel_rfl) (fun w _ => by kernel_rfl) (by kernel_rfl) hS ?_
 refine take_h (i := 1) (oi := opp35_1_1 ps) (fuel := 17) (v := (.pointer (some ⟨X,0,none⟩))) (frp35 (.slice a1 l.length cap) v1 v2 v3 (.pointer (some ⟨X,0,none⟩)) (.pointer (some ⟨X + 1,0,none⟩)) v6 v7 v8 v9 xa (.slice a1 l.length cap) (.pointer (some ⟨X,0,none⟩)) xd xe xf xg xh xi xj xk xl xm xn xo xp xq xr xt xu xv xw xx) (by kernel_rfl) (by kernel_rfl) (by kernel_rfl) (by kernel_rfl) (fun c x w => hQ c x _ _ w) (by kernel_rfl) (fun w hS => by unfold frp35 opp35_1_1; go_simp) (by kernel_rfl) hS ?_
 refine take_h (i := 2) (oi := opp35_1_2 ps) (fuel := 16) (v := (.int .i64 (x.a : Nat))) (frp35 (.slice a1 l.length cap) v1 v2 v3 (.pointer (some ⟨X,0,none⟩)) (.pointer (some ⟨X + 1,0,none⟩)) v6 v7 v8 v9 xa (.slice a1 l.length cap) (.pointer (some ⟨X,0,none⟩)) (.int .i64 (x.a : Nat)) xe xf xg xh xi xj xk xl xm xn xo xp xq xr xt xu xv xw xx) (by kernel_rfl) (by kernel_rfl) (by kernel_rfl) (by kernel_rfl) (fun c x w => hQ c x _ _ w) (by kernel_rfl) (fun w hS => by have e := hS.c0; unfold frp35 opp35_1_2; go_simp) (by kernel_rfl) hS ?_
 refine take_h (i := 3) (oi := opp35_1_3 ps) (fuel := 15) (v := (.pointer (some ⟨X,1,none⟩))) (frp35 (.slice a1 l.length cap) v1 v2 v3 (.pointer (some ⟨X,0,none⟩)) (.pointer (some ⟨X + 1,0,none⟩)) v6 v7 v8 v9 xa (.slice a1 l.length cap) (.pointer (some ⟨X,0,none⟩)) (.int .i64 (x.a : Nat)) (.pointer (some ⟨X,1,none⟩)) xf xg xh xi xj xk xl xm xn xo xp xq xr xt xu xv xw xx) (by kernel_rfl) (by kernel_rfl) (by kernel_rfl) (by kernel_rfl) (fun c x w => hQ c x _ _ w) (by kernel_rfl) (fun w hS => by unfold frp35 opp35_1_3; go_simp) (by kernel_rfl) hS ?_
 refine take_h (i := 4) (oi := opp35_1_4 ps) (fuel := 14) (v := (.int .i64 (x.b : Nat))) (frp35 (.slice a1 l.length cap) v1 v2 v3 (.pointer (some ⟨X,0,none⟩)) (.pointer (some ⟨X + 1,0,none⟩)) v6 v7 v8 v9 xa (.slice a1 l.length cap) (.pointer (some ⟨X,0,none⟩)) (.int .i64 (x.a : Nat)) (.pointer (some ⟨X,1,none⟩)) (.int .i64 (x.b : Nat)) xg xh xi xj xk xl xm xn xo xp xq xr xt xu xv xw xx) (by kernel_rfl) (by kernel_rfl) (by kernel_rfl) (by kernel_rfl) (fun c x w => hQ c x _ _ w) (by kernel_rfl) (fun w hS => by have e := hS.c1; unfold frp35 opp35_1_4; go_simp) (by kernel_rfl) hS ?_
 refine take_h (i := 5) (oi := opp35_1_5 ps) (fuel := 13) (v := (.slice a2 (x.b - x.a) (cap - x.a))) (frp35 (.slice a1 l.length cap) v1 v2 v3 (.pointer (some ⟨X,0,none⟩)) (.pointer (some ⟨X + 1,0,none⟩)) v6 v7 v8 v9 xa (.slice a1 l.length cap) (.pointer (some ⟨X,0,none⟩)) (.int .i64 (x.a : Nat)) (.pointer (some ⟨X,1,none⟩)) (.int .i64 (x.b : Nat)) (.slice a2 (x.b - x.a) (cap - x.a)) xh xi xj xk xl xm xn xo xp xq xr xt xu xv xw xx) (by kernel_rfl) (by kernel_rfl) (by kernel_rfl) (by kernel_rfl) (fun c x w => hQ c x _ _ w) (by kernel_rfl) (fun w hS => by have e := hsl w; unfold frp35 opp35_1_5; go_simp) (by kernel_rfl) hS ?_
 refine take_h (i := 6) (oi := opp35_1_6 ps) (fuel := 12) (v := (.pointer (some ⟨X,1,none⟩))) (frp35 (.slice a1 l.length cap) v1 v2 v3 (.pointer (some ⟨X,0,none⟩)) (.pointer (some ⟨X + 1,0,none⟩)) v6 v7 v8 v9 xa (.slice a1 l.length cap) (.pointer (some ⟨X,0,none⟩)) (.int .i64 (x.a : Nat)) (.pointer (some ⟨X,1,none⟩)) (.int .i64 (x.b : Nat)) (.slice a2 (x.b - x.a) (cap - x.a)) (.pointer (some ⟨X,1,none⟩)) xi xj xk xl xm xn xo xp xq xr xt xu xv xw xx) (by kernel_rfl) (by kernel_rfl) (by kernel_rfl) (by kernel_rfl) (fun c x w => hQ c x _ _ w) (by kernel_rfl) (fun w hS => by unfold frp35 opp35_1_6; go_simp) (by kernel_rfl) hS ?_
 refine take_h (i := 7) (oi := opp35_1_7 ps) (fuel := 11) (v := (.int .i64 (x.b : Nat))) (frp35 (.slice a1 l.length cap) v1 v2 v3 (.pointer (some ⟨X,0,none⟩)) (.pointer (some ⟨X + 1,0,none⟩)) v6 v7 v8 v9 xa (.slice a1 l.length cap) (.pointer (some ⟨X,0,none⟩)) (.int .i64 (x.a : Nat)) (.pointer (some ⟨X,1,none⟩)) (.int .i64 (x.b : Nat)) (.slice a2 (x.b - x.a) (cap - x.a)) (.pointer (some ⟨X,1,none⟩)) (.int .i64 (x.b : Nat)) xj xk xl xm xn xo xp xq xr xt xu xv xw xx) (by kernel_rfl) (by kernel_rfl) (by kernel_rfl) (by kernel_rfl) (fun c x w => hQ c x _ _ w) (by kernel_rfl) (fun w hS => by have e := hS.c1; unfold frp35 opp35_1_7; go_simp) (by kernel_rfl) hS ?_
 refine take_h (i := 8) (oi := opp35_1_8 ps) (fuel := 10) (v := (.pointer (some ⟨X,0,none⟩))) (frp35 (.slice a1 l.length cap) v1 v2 v3 (.pointer (some ⟨X,0,none⟩)) (.pointer (some ⟨X + 1,0,none⟩)) v6 v7 v8 v9 xa (.slice a1 l.length cap) (.pointer (some ⟨X,0,none⟩)) (.int .i64 (x.a : Nat)) (.pointer (some ⟨X,1,none⟩)) (.int .i64 (x.b : Nat)) (.slice a2 (x.b - x.a) (cap - x.a)) (.pointer (some ⟨X,1,none⟩)) (.int .i64 (x.b : Nat)) (.pointer (some ⟨X,0,none⟩)) xk xl xm xn xo xp xq xr xt xu xv xw xx) (by kernel_rfl) (by kernel_rfl) (by kernel_rfl) (by kernel_rfl) (fun c x w => hQ c x _ _ w) (by kernel_rfl) (fun w hS => by unfold frp35 opp35_1_8; go_simp) (by kernel_rfl) hS ?_
 refine take_h (i := 9) (oi := opp35_1_9 ps) (fuel := 9) (v := (.int .i64 (x.a : Nat))) (frp35 (.slice a1 l.length cap) v1 v2 v3 (.pointer (some ⟨X,0,none⟩)) (.pointer (some ⟨X + 1,0,none⟩)) v6 v7 v8 v9 xa (.slice a1 l.length cap) (.pointer (some ⟨X,0,none⟩)) (.int .i64 (x.a : Nat)) (.pointer (some ⟨X,1,none⟩)) (.int .i64 (x.b : Nat)) (.slice a2 (x.b - x.a) (cap - x.a)) (.pointer (some ⟨X,1,none⟩)) (.int .i64 (x.b : Nat)) (.pointer (some ⟨X,0,none⟩)) (.int .i64 (x.a : Nat)) xl xm xn xo xp xq xr xt xu xv xw xx) (by kernel_rfl) (by kernel_rfl) (by kernel_rfl) (by kernel_rfl) (fun c x w => hQ c x _ _ w) (by kernel_rfl) (fun w hS => by have e := hS.c0; unfold frp35 opp35_1_9; go_simp) (by kernel_rfl) hS ?_
 refine take_h (i := 10) (oi := opp35_1_10 ps) (fuel := 8) (v := (.int .i64 ((x.b : Int) - x.a))) (frp35 (.slice a1 l.length cap) v1 v2 v3 (.pointer (some ⟨X,0,none⟩)) (.pointer (some ⟨X + 1,0,none⟩)) v6 v7 v8 v9 xa (.slice a1 l.length cap) (.pointer (some ⟨X,0,none⟩)) (.int .i64 (x.a : Nat)) (.pointer (some ⟨X,1,none⟩)) (.int .i64 (x.b : Nat)) (.slice a2 (x.b - x.a) (cap - x.a)) (.pointer (some ⟨X,1,none⟩)) (.int .i64 (x.b : Nat)) (.pointer (some ⟨X,0,none⟩)) (.int .i64 (x.a : Nat)) (.int .i64 ((x.b : Int) - x.a)) xm xn xo xp xq xr xt xu xv xw xx) (by kernel_rfl) (by kernel_rfl) (by kernel_rfl) (by kernel_rfl) (fun c x w => hQ c x _ _ w) (by kernel_rfl) (fun w hS => by unfold frp35 opp35_1_10; go_simp; try exact wrap_sm hxb) (by kernel_rfl) hS ?_
 refine want_h (i := 11) (oi := opp35_1_11 ps) (fuel := 7) (by kernel_rfl) (by kernel_rfl) (by kernel_rfl) fun K hK => ?_
 unfold frp35 opp35_1_11
 go_simp
 refine (give_any (.slice a2 (x.b - x.a) (cap - x.a)) (subL l x.a x.b) 0 ((x.b : Int) - x.a) _ hS.hu).mono ?_
 rintro e w1 ⟨rfl,hb1⟩
 have hS1 : WiW X x s l (.slice a1 l.length cap) (.slice a2 (x.b - x.a) (cap - x.a)) w1 := hS.below hb1
 have hz1 := hz0.trans (hb1.mono hz0.size)
 refine hK _ _ hS1 (cast_h (frp35 (.slice a1 l.length cap) v1 v2 v3 (.pointer (some ⟨X,0,none⟩)) (.pointer (some ⟨X + 1,0,none⟩)) v6 v7 v8 v9 xa (.slice a1 l.length cap) (.pointer (some ⟨X,0,none⟩)) (.int .i64 (x.a : Nat)) (.pointer (some ⟨X,1,none⟩)) (.int .i64 (x.b : Nat)) (.slice a2 (x.b - x.a) (cap - x.a)) (.pointer (some ⟨X,1,none⟩)) (.int .i64 (x.b : Nat)) (.pointer (some ⟨X,0,none⟩)) (.int .i64 (x.a : Nat)) (.int .i64 ((x.b : Int) - x.a)) (.tuple #[.int .i64 (giS (subL l x.a x.b) 0 ((x.b : Int) - x.a)),.int .i64 (giH (subL l x.a x.b) 0 ((x.b : Int) - x.a)),.int .i64 (rfL (subL l x.a x.b) 0 ((x.b : Int) - x.a))]) xn xo xp xq xr xt xu xv xw xx) (by kernel_rfl) ?_)
 clear hK K
 refine take_h (i := 12) (oi := opp35_1_12 ps) (fuel := 6) (v := (.tuple #[.int .i64 (giS (subL l x.a x.b) 0 ((x.b : Int) - x.a)),.int .i64 (giH (subL l x.a x.b) 0 ((x.b : Int) - x.a)),.int .i64 (rfL (subL l x.a x.b) 0 ((x.b : Int) - x.a))])) (frp35 (.slice a1 l.length cap) v1 v2 v3 (.pointer (some ⟨X,0,none⟩)) (.pointer (some ⟨X + 1,0,none⟩)) v6 v7 v8 v9 (.tuple #[.int .i64 (giS (subL l x.a x.b) 0 ((x.b : Int) - x.a)),.int .i64 (giH (subL l x.a x.b) 0 ((x.b : Int) - x.a)),.int .i64 (rfL (subL l x.a x.b) 0 ((x.b : Int) - x.a))]) (.slice a1 l.length cap) (.pointer (some ⟨X,0,none⟩)) (.int .i64 (x.a : Nat)) (.pointer (some ⟨X,1,none⟩)) (.int .i64 (x.b : Nat)) (.slice a2 (x.b - x.a) (cap - x.a)) (.pointer (some ⟨X,1,none⟩)) (.int .i64 (x.b : Nat)) (.pointer (some ⟨X,0,none⟩)) (.int .i64 (x.a : Nat)) (.int .i64 ((x.b : Int) - x.a)) (.tuple #[.int .i64 (giS (subL l x.a x.b) 0 ((x.b : Int) - x.a)),.int .i64 (giH (subL l x.a x.b) 0 ((x.b : Int) - x.a)),.int .i64 (rfL (subL l x.a x.b) 0 ((x.b : Int) - x.a))]) xn xo xp xq xr xt xu xv xw xx) (by kernel_rfl) (by kernel_rfl) (by kernel_rfl) (by kernel_rfl) (fun c x w => hQ c x _ _ w) (by kernel_rfl) (fun w _ => by kernel_rfl) (by kernel_rfl) hS1 ?_
 refine take_h (i := 13) (oi := opp35_1_13 ps) (fuel := 5) (v := (.int .i64 (giS (subL l x.a x.b) 0 ((x.b : Int) - x.a)))) (frp35 (.slice a1 l.length cap) v1 v2 v3 (.pointer (some ⟨X,0,none⟩)) (.pointer (some ⟨X + 1,0,none⟩)) v6 v7 v8 v9 (.tuple #[.int .i64 (giS (subL l x.a x.b) 0 ((x.b : Int) - x.a)),.int .i64 (giH (subL l x.a x.b) 0 ((x.b : Int) - x.a)),.int .i64 (rfL (subL l x.a x.b) 0 ((x.b : Int) - x.a))]) (.slice a1 l.length cap) (.pointer (some ⟨X,0,none⟩)) (.int .i64 (x.a : Nat)) (.pointer (some ⟨X,1,none⟩)) (.int .i64 (x.b : Nat)) (.slice a2 (x.b - x.a) (cap - x.a)) (.pointer (some ⟨X,1,none⟩)) (.int .i64 (x.b : Nat)) (.pointer (some ⟨X,0,none⟩)) (.int .i64 (x.a : Nat)) (.int .i64 ((x.b : Int) - x.a)) (.tuple #[.int .i64 (giS (subL l x.a x.b) 0 ((x.b : Int) - x.a)),.int .i64 (giH (subL l x.a x.b) 0 ((x.b : Int) - x.a)),.int .i64 (rfL (subL l x.a x.b) 0 ((x.b : Int) - x.a))]) (.int .i64 (giS (subL l x.a x.b) 0 ((x.b : Int) - x.a))) xo xp xq xr xt xu xv xw xx) (by kernel_rfl) (by kernel_rfl) (by kernel_rfl) (by kernel_rfl) (fun c x w => hQ c x _ _ w) (by kernel_rfl) (fun w _ => by kernel_rfl) (by kernel_rfl) hS1 ?_
 refine take_h (i := 14) (oi := opp35_1_14 ps) (fuel := 4) (v := (.int .i64 (giH (subL l x.a x.b) 0 ((x.b : Int) - x.a)))) (frp35 (.slice a1 l.length cap) v1 v2 v3 (.pointer (some ⟨X,0,none⟩)) (.pointer (some ⟨X + 1,0,none⟩)) v6 v7 v8 v9 (.tuple #[.int .i64 (giS (subL l x.a x.b) 0 ((x.b : Int) - x.a)),.int .i64 (giH (subL l x.a x.b) 0 ((x.b : Int) - x.a)),.int .i64 (rfL (subL l x.a x.b) 0 ((x.b : Int) - x.a))]) (.slice a1 l.length cap) (.pointer (some ⟨X,0,none⟩)) (.int .i64 (x.a : Nat)) (.pointer (some ⟨X,1,none⟩)) (.int .i64 (x.b : Nat)) (.slice a2 (x.b - x.a) (cap - x.a)) (.pointer (some ⟨X,1,none⟩)) (.int .i64 (x.b : Nat)) (.pointer (some ⟨X,0,none⟩)) (.int .i64 (x.a : Nat)) (.int .i64 ((x.b : Int) - x.a)) (.tuple #[.int .i64 (giS (subL l x.a x.b) 0 ((x.b : Int) - x.a)),.int .i64 (giH (subL l x.a x.b) 0 ((x.b : Int) - x.a)),.int .i64 (rfL (subL l x.a x.b) 0 ((x.b : Int) - x.a))]) (.int .i64 (giS (subL l x.a x.b) 0 ((x.b : Int) - x.a))) (.int .i64 (giH (subL l x.a x.b) 0 ((x.b : Int) - x.a))) xp xq xr xt xu xv xw xx) (by kernel_rfl) (by kernel_rfl) (by kernel_rfl) (by kernel_rfl) (fun c x w => hQ c x _ _ w) (by kernel_rfl) (fun w _ => by kernel_rfl) (by kernel_rfl) hS1 ?_
 refine take_h (i := 15) (oi := opp35_1_15 ps) (fuel := 3) (v := (.int .i64 (rfL (subL l x.a x.b) 0 ((x.b : Int) - x.a)))) (frp35 (.slice a1 l.length cap) v1 v2 v3 (.pointer (some ⟨X,0,none⟩)) (.pointer (some ⟨X + 1,0,none⟩)) v6 v7 v8 v9 (.tuple #[.int .i64 (giS (subL l x.a x.b) 0 ((x.b : Int) - x.a)),.int .i64 (giH (subL l x.a x.b) 0 ((x.b : Int) - x.a)),.int .i64 (rfL (subL l x.a x.b) 0 ((x.b : Int) - x.a))]) (.slice a1 l.length cap) (.pointer (some ⟨X,0,none⟩)) (.int .i64 (x.a : Nat)) (.pointer (some ⟨X,1,none⟩)) (.int .i64 (x.b : Nat)) (.slice a2 (x.b - x.a) (cap - x.a)) (.pointer (some ⟨X,1,none⟩)) (.int .i64 (x.b : Nat)) (.pointer (some ⟨X,0,none⟩)) (.int .i64 (x.a : Nat)) (.int .i64 ((x.b : Int) - x.a)) (.tuple #[.int .i64 (giS (subL l x.a x.b) 0 ((x.b : Int) - x.a)),.int .i64 (giH (subL l x.a x.b) 0 ((x.b : Int) - x.a)),.int .i64 (rfL (subL l x.a x.b) 0 ((x.b : Int) - x.a))]) (.int .i64 (giS (subL l x.a x.b) 0 ((x.b : Int) - x.a))) (.int .i64 (giH (subL l x.a x.b) 0 ((x.b : Int) - x.a))) (.int .i64 (rfL (subL l x.a x.b) 0 ((x.b : Int) - x.a))) xq xr xt xu xv xw xx) (by kernel_rfl) (by kernel_rfl) (by kernel_rfl) (by kernel_rfl) (fun c x w => hQ c x _ _ w) (by kernel_rfl) (fun w _ => by kernel_rfl) (by kernel_rfl) hS1 ?_
 refine take_h (i := 16) (oi := opp35_1_16 ps) (fuel := 2) (v := (.int .i64 (giS (subL l x.a x.b) 0 ((x.b : Int) - x.a)))) (frp35 (.slice a1 l.length cap) v1 v2 v3 (.pointer (some ⟨X,0,none⟩)) (.pointer (some ⟨X + 1,0,none⟩)) v6 (.int .i64 (giS (subL l x.a x.b) 0 ((x.b : Int) - x.a))) v8 v9 (.tuple #[.int .i64 (giS (subL l x.a x.b) 0 ((x.b : Int) - x.a)),.int .i64 (giH (subL l x.a x.b) 0 ((x.b : Int) - x.a)),.int .i64 (rfL (subL l x.a x.b) 0 ((x.b : Int) - x.a))]) (.slice a1 l.length cap) (.pointer (some ⟨X,0,none⟩)) (.int .i64 (x.a : Nat)) (.pointer (some ⟨X,1,none⟩)) (.int .i64 (x.b : Nat)) (.slice a2 (x.b - x.a) (cap - x.a)) (.pointer (some ⟨X,1,none⟩)) (.int .i64 (x.b : Nat)) (.pointer (some ⟨X,0,none⟩)) (.int .i64 (x.a : Nat)) (.int .i64 ((x.b : Int) - x.a)) (.tuple #[.int .i64 (giS (subL l x.a x.b) 0 ((x.b : Int) - x.a)),.int .i64 (giH (subL l x.a x.b) 0 ((x.b : Int) - x.a)),.int .i64 (rfL (subL l x.a x.b) 0 ((x.b : Int) - x.a))]) (.int .i64 (giS (subL l x.a x.b) 0 ((x.b : Int) - x.a))) (.int .i64 (giH (subL l x.a x.b) 0 ((x.b : Int) - x.a))) (.int .i64 (rfL (subL l x.a x.b) 0 ((x.b : Int) - x.a))) xq xr xt xu xv xw xx) (by kernel_rfl) (by kernel_rfl) (by kernel_rfl) (by kernel_rfl) (fun c x w => hQ c x _ _ w) (by kernel_rfl) (fun w _ => by kernel_rfl) (by kernel_rfl) hS1 ?_
 refine take_h (i := 17) (oi := opp35_1_17 ps) (fuel := 1) (v := (.int .i64 (giH (subL l x.a x.b) 0 ((x.b : Int) - x.a)))) (frp35 (.slice a1 l.length cap) v1 v2 v3 (.pointer (some ⟨X,0,none⟩)) (.pointer (some ⟨X + 1,0,none⟩)) v6 (.int .i64 (giS (subL l x.a x.b) 0 ((x.b : Int) - x.a))) (.int .i64 (giH (subL l x.a x.b) 0 ((x.b : Int) - x.a))) v9 (.tuple #[.int .i64 (giS (subL l x.a x.b) 0 ((x.b : Int) - x.a)),.int .i64 (giH (subL l x.a x.b) 0 ((x.b : Int) - x.a)),.int .i64 (rfL (subL l x.a x.b) 0 ((x.b : Int) - x.a))]) (.slice a1 l.length cap) (.pointer (some ⟨X,0,none⟩)) (.int .i64 (x.a : Nat)) (.pointer (some ⟨X,1,none⟩)) (.int .i64 (x.b : Nat)) (.slice a2 (x.b - x.a) (cap - x.a)) (.pointer (some ⟨X,1,none⟩)) (.int .i64 (x.b : Nat)) (.pointer (some ⟨X,0,none⟩)) (.int .i64 (x.a : Nat)) (.int .i64 ((x.b : Int) - x.a)) (.tuple #[.int .i64 (giS (subL l x.a x.b) 0 ((x.b : Int) - x.a)),.int .i64 (giH (subL l x.a x.b) 0 ((x.b : Int) - x.a)),.int .i64 (rfL (subL l x.a x.b) 0 ((x.b : Int) - x.a))]) (.int .i64 (giS (subL l x.a x.b) 0 ((x.b : Int) - x.a))) (.int .i64 (giH (subL l x.a x.b) 0 ((x.b : Int) - x.a))) (.int .i64 (rfL (subL l x.a x.b) 0 ((x.b : Int) - x.a))) xq xr xt xu xv xw xx) (by kernel_rfl) (by kernel_rfl) (by kernel_rfl) (by kernel_rfl) (fun c x w => hQ c x _ _ w) (by kernel_rfl) (fun w _ => by kernel_rfl) (by kernel_rfl) hS1 ?_
 refine take_h (i := 18) (oi := opp35_1_18 ps) (fuel := 0) (v := (.int .i64 (rfL (subL l x.a x.b) 0 ((x.b : Int) - x.a)))) (frp35 (.slice a1 l.length cap) v1 v2 v3 (.pointer (some ⟨X,0,none⟩)) (.pointer (some ⟨X + 1,0,none⟩)) v6 (.int .i64 (giS (subL l x.a x.b) 0 ((x.b : Int) - x.a))) (.int .i64 (giH (subL l x.a x.b) 0 ((x.b : Int) - x.a))) (.int .i64 (rfL (subL l x.a x.b) 0 ((x.b : Int) - x.a))) (.tuple #[.int .i64 (giS (subL l x.a x.b) 0 ((x.b : Int) - x.a)),.int .i64 (giH (subL l x.a x.b) 0 ((x.b : Int) - x.a)),.int .i64 (rfL (subL l x.a x.b) 0 ((x.b : Int) - x.a))]) (.slice a1 l.length cap) (.pointer (some ⟨X,0,none⟩)) (.int .i64 (x.a : Nat)) (.pointer (some ⟨X,1,none⟩)) (.int .i64 (x.b : Nat)) (.slice a2 (x.b - x.a) (cap - x.a)) (.pointer (some ⟨X,1,none⟩)) (.int .i64 (x.b : Nat)) (.pointer (some ⟨X,0,none⟩)) (.int .i64 (x.a : Nat)) (.int .i64 ((x.b : Int) - x.a)) (.tuple #[.int .i64 (giS (subL l x.a x.b) 0 ((x.b : Int) - x.a)),.int .i64 (giH (subL l x.a x.b) 0 ((x.b : Int) - x.a)),.int .i64 (rfL (subL l x.a x.b) 0 ((x.b : Int) - x.a))]) (.int .i64 (giS (subL l x.a x.b) 0 ((x.b : Int) - x.a))) (.int .i64 (giH (subL l x.a x.b) 0 ((x.b : Int) - x.a))) (.int .i64 (rfL (subL l x.a x.b) 0 ((x.b : Int) - x.a))) xq xr xt xu xv xw xx) (by kernel_rfl) (by kernel_rfl) (by kernel_rfl) (by kernel_rfl) (fun c x w => hQ c x _ _ w) (by kernel_rfl) (fun w _ => by kernel_rfl) (by kernel_rfl) hS1 ?_
 exact wpAnyH_done (by kernel_rfl) (hq _ hz1 hS1) _
theorem wide35 (v : Value) (l : List It) (x : Pc) (s : Sl) (hck : ckL l = 0) (hx : x.a ≤ x.b ∧ x.b ≤ l.length) (hs : okS s = true) (w : World) (hS : ItsAt w v l) : Calls Tryz.prog 40 #[v,.agg (pcL x).toArray,.agg (slL s).toArray] w fun e w' => e = .returned (.bool (wdB l x s)) ∧ Below w.heap.size w w' := by
 have hB := below2 w (.cells (pcL x).toArray 76) (.cells (slL s).toArray 53)
 have hl8 := ck_len hck
 have hgr := giH_rng (sub_ck hck (f := x.a) hx.2) 0 ((x.b : Int) - x.a)
 have hsr := okS_rng hs
 obtain ⟨a1,cap,rfl,-⟩ := hS.ex
 have hle := hS.le _ _ _ rfl
 obtain ⟨a2,hsl,ha2⟩ := slice55 a1 l.length cap x.a x.b hx.1 (by omega)
 have hW : Hid (WiW w.heap.size x s l (.slice a1 l.length cap) (.slice a2 (x.b - x.a) (cap - x.a)) ((w.alloc (.cells (pcL x).toArray 76)).alloc (.cells (slL s).toArray 53))) := ⟨(Below.heap_alloc _ _ _ (by simp)).trans (World.alloc_heap_new w _),alloc2_heap w _ _,hS.below hB (Nat.le_refl _),sub_its (hS.below hB (Nat.le_refl _)) hx.1 hx.2 ha2⟩
 have hBh : Hid (Below w.heap.size w ((w.alloc (.cells (pcL x).toArray 76)).alloc (.cells (slL s).toArray 53))) := hB
 have hxh : Hid (x.a ≤ x.b ∧ x.b ≤ 8192) := ⟨hx.1,by omega⟩
 have hslh : Hid (∀ W,(Instr.slice 68 (.slice a1 l.length cap) (some (.int .i64 (x.a : Nat))) (some (.int .i64 (x.b : Nat))) none).run Tryz.prog W = .ok (.slice a2 (x.b - x.a) (cap - x.a)) W) := hsl
 clear hB hS hck hx hle hsl ha2 hl8 hs
 unfold wdB
 go_enter Tryz.func40,Tryz.ntmps40
 go_wp2_with fail
 generalize (w.alloc (.cells (pcL x).toArray 76)).alloc (.cells (slL s).toArray 53) = wz at *
 refine wi_r1 _ (fun _ _ _ _ _ h => h) _ _ w w.heap.size x s l a1 a2 cap wz ⟨hW.out.px,hW.out.ps,hW.out.hl.below (below_drew _) (Nat.le_refl _),hW.out.hu.below (below_drew _) (Nat.le_refl _)⟩ hBh.out.drew hxh.out hslh.out ?_
 intro w3 hz3 hS3
 have e4 := hS3.c4
 have e5 := hS3.d1
 clear hS3 hslh hxh hBh hW
 obtain ⟨gh,hgh⟩ : ∃ gh,gh = giH (subL l x.a x.b) 0 ((x.b : Int) - x.a) := ⟨_,rfl⟩
 rw [← hgh] at hgr ⊢
 have hghh : Hid (gh = giH (subL l x.a x.b) 0 ((x.b : Int) - x.a)) := hgh
 clear hgh
 obtain ⟨g1,g2⟩ := hgr
 obtain ⟨-,s1,s2⟩ := hsr
 unfold frp35
 go_wp2_with fail
 go_ret
 exact ⟨by rw [← hghh.out]; rfl,hz3⟩
theorem flag34 (a b : Bool) (w : World) : Calls Tryz.prog 39 #[.bool a,.bool b] w fun e w' => e = .returned (.int .i64 ((if a then 1 else 0) + (if b then 2 else 0))) ∧ w' = w := by
 cases a <;> cases b
 all_goals go_enter Tryz.func39,Tryz.ntmps39
 all_goals go_wp2_with fail
 all_goals go_ret
 all_goals exact ⟨by simp,rfl⟩
end Go.Proofs.YtlgcnbomfhmjiaaGreatDoor

namespace Go.Proofs.YtlgcnbomfhmjiaaGreatDoor
open Go.RowKit Go.Shelf
set_option maxRecDepth 100000
set_option maxHeartbeats 4000000

theorem el80 : ElOk 68 91 8 64 := ElOk.of Tryz.underlying68 (by kernel_rfl)
theorem build80 (x : It) (W : World) : (Instr.buildSlice 68 1 #[(0,.agg (itL x).toArray)]).run Tryz.prog W = .ok (.slice (some ⟨W.heap.size,0,none⟩) 1 1) (W.alloc (.cells (itL x).toArray 91)) := by
 obtain ⟨k,f,t,w,s,h,c,y⟩ := x
 kernel_rfl
theorem wpList_build80 {ops : Array Oper} {rest : List Oper} {oi : Oper} {a : Act} {w : World} {Q : Exit → Act → World → Prop} (hgd : oi.guard = none) (y : Operand) (ho : oi.op = .buildSlice 68 1 #[(0,y)]) (p : It) (hy : a.eval y = .agg (itL p).toArray)
  (h : wpList Tryz.prog ops Q rest (a.put oi.dst (.slice (some ⟨w.heap.size,0,none⟩) 1 1)) (w.alloc (.cells (itL p).toArray 91))) : wpList Tryz.prog ops Q (oi :: rest) a w :=
 wpList_plain hgd fun _ hK => by
  have hr := build80 p w
  unfold Oper.wp execOp
  simp only [ho,List.map_toArray,List.map_cons,List.map_nil,hy,Sem.run_bind,Sem.run_pure,Result.andThen_ok,hr]
  exact hK _ _ h
theorem info80 (x : It) : (Tryz.prog.info? 91).map (·.size) = some (itL x).toArray.size := by show _ = some 8; kernel_rfl
theorem info80l (x : It) : (Tryz.prog.info? 91).map (·.size) = some (itL x).length := by show _ = some 8; kernel_rfl
theorem itL_all (x : It) : (itL x).toArray.all (·.oneCell') = true := all_oneCell_toArray (itL_one x)
def pz0 : It := ⟨0,0,0,0,0,0,0,false⟩
structure PiI (z w0 : World) (v : Value) (qs : List It) (W : World) : Prop where
 low : Below w0.heap.size w0 W
 row : W.ownsRow w0.heap.size 91 8 v qs.length (qs.flatMap itL)
theorem PiI.next {z w0 : World} {v : Value} {qs : List It} {W W' : World} (h : PiI z w0 v qs W) (hb : Below W.heap.size W W') : PiI z w0 v qs W' :=
 ⟨h.low.trans (hb.mono h.low.size),ownsRow_below h.row hb⟩
theorem PiI.box {z w0 : World} {v : Value} {qs : List It} {W : World} {c0 cs : Array Value} (h : PiI z w0 v qs W) : PiI z w0 v qs ((W.alloc (.cells c0 91)).setRow W.heap.size cs) := by
 have h1 := h.next ((Below.refl _ _).alloc (Nat.le_refl _) (.cells c0 91))
 have hT := Turns.setRow (X := fun k => k = W.heap.size) (W.alloc (.cells c0 91)) rfl cs
 exact ⟨h1.low.trans (hT.below h1.low.size (fun k hk => by have := h.low.size; omega)),ownsRow_turns h1.row hT (fun g hg e => by have := (h.row.lt g hg).2; omega)⟩
theorem PiI.app {z w0 : World} {v v' : Value} {qs qs' : List It} {W W' : World} (h : PiI z w0 v qs W) (hr : W'.ownsRow w0.heap.size 91 8 v' qs'.length (qs'.flatMap itL)) (hb : Below w0.heap.size W W') : PiI z w0 v' qs' W' :=
 ⟨h.low.trans hb,hr⟩
def PiEnd (L : List It) (w : World) (e : Ending) (w' : World) : Prop := (∃ v,e = .returned v ∧ ItsAt w' v L) ∧ Below w.heap.size w w'
theorem its_range {W : World} {a : Option Addr} {n cap : Nat} {l : List It} (h : ItsAt W (.slice a n cap) l) {i : Nat} (hi : i < l.length) : ∃ b o,a = some ⟨b,o,none⟩ ∧ b < W.heap.size ∧ W.rangeAt b (o + i * 8) (itL l[i]) := by
 obtain ⟨a',cap',h1,h2⟩ := h.ex
 cases h1
 rcases h2 with h2 | ⟨b,o,rfl,hb,hc⟩
 ·subst h2; simp at hi
 ·exact ⟨b,o,rfl,hb,fun j v hv => hc i hi j v hv⟩
theorem pitems_any (a : Pa) (L : List It) (w : World) (hA : PaAt w a) (hL : L.length ≤ 8192) (hW : ∀ x ∈ L,x.w ≤ 524288)
  (hI : ∀ W,PaAt W a → Calls Tryz.prog 53 #[.agg (paC a)] W fun e w' => (∃ v,e = .returned (.tuple #[v,.int .i64 0]) ∧ ItsAt w' v L) ∧ Below W.heap.size W w') : Calls Tryz.prog 35 #[paV a] w (PiEnd L w) := by
 have hB := (Below.refl w.heap.size w).alloc (Nat.le_refl _) (Obj.cells (paC a) 36)
 have hP := PB.new w a
 have hit : Hid (Calls Tryz.prog 53 #[.agg (paC a)] (w.alloc (.cells (paC a) 36)) fun e w' => (∃ v,e = .returned (.tuple #[v,.int .i64 0]) ∧ ItsAt w' v L) ∧ Below (w.alloc (.cells (paC a) 36)).heap.size (w.alloc (.cells (paC a) 36)) w') := hI _ (hA.below hB (Nat.le_refl _))
 have hBh : Hid (Below w.heap.size w (w.alloc (.cells (paC a) 36))) := hB
 have hWh : Hid (∀ k (h : k < L.length),(L[k]).w ≤ 524288) := fun k h => hW _ (List.getElem_mem h)
 have hend : Hid (∀ W v,Below w.heap.size w W → ItsAt W v L → PiEnd L w (.returned v) W) := fun W v h1 h2 => ⟨⟨v,rfl,h2⟩,h1⟩
 clear hB hA hI hW
 generalize PiEnd L w = E at *
 show Calls Tryz.prog 35 #[.agg (paC a)] w E
 generalize hwz : w.alloc (.cells (paC a) 36) = wz at *
 go_enter Tryz.func35,Tryz.ntmps35
 go_wp2_with (first | (refine wpList_load_row rfl 36 _ rfl w.heap.size rfl 36 _ (0,0) _ hP.row Tryz.underlying36 rfl (info34 a) ?_) | (go_at_call 53; refine hit.out.mono ?_; rintro e w2 ⟨⟨v,rfl,hv⟩,hb2⟩; have hb2h : Hid (Below w.heap.size w w2) := hBh.out.trans (hb2.mono hBh.out.size); obtain ⟨av,cv,rfl,-⟩ := hv.ex; have hvh : Hid (ItsAt w2 (.slice av L.length cv) L) := hv; clear hv hb2 hit hP hBh))
 have hI0 : Hid (PiI w w2 (.slice none 0 0) [] w2) := ⟨Below.refl _ _,World.ownsRow_nil _ _ _ _⟩
 go_loopw [5,15] (fun v5 v15 wr => ∃ (k : Nat) (va : Option Addr) (vc : Nat),k ≤ L.length ∧ v15 = .int .i64 k ∧ v5 = .slice va k vc ∧ Hid (PiI w w2 (.slice va k vc) (L.take k) wr)) (fun _ v15 _ => L.length - (intOf v15).toNat)
 case atStart => exact ⟨0,none,0,by omega,rfl,rfl,hI0⟩
 case round =>
  obtain ⟨k,va,vc,hk,rfl,rfl,hI⟩ := hrel
  clear hI0
  by_cases hlt : k < L.length
  ·have hlt' : (k : Int) < (L.length : Int) := by omega
   obtain ⟨b,o,rfl,hbl,hrg⟩ := its_range (hvh.out.below hI.out.low (Nat.le_refl _)) hlt
   have hwd := hWh.out k hlt
   have hlen : Hid ((L.take k).length = k) := by show _ = _; rw [List.length_take]; omega
   have hI1 : Hid (PiI w w2 (.slice va (L.take k).length vc) (L.take k) wr) := by rw [hlen.out]; exact hI.out
   have hnx : Hid (∀ W v,PiI w w2 v (L.take k ++ [L[k]]) W → PiI w w2 v (L.take (k + 1)) W) := fun W v h => by rw [List.take_add_one,List.getElem?_eq_getElem hlt]; exact h
   have hz : (wr.alloc (.cells (itL pz0).toArray 91)).heap[wr.heap.size]? = some (.cells (itL pz0).toArray 91 (0,0)) := World.alloc_heap_new wr _
   clear hend hI hWh hvh
   generalize hx : L[k] = x at *
   have hgt : ¬ (524288 : Int) < x.w := by omega
   have hz0 : (wr.alloc (.cells #[.int .i64 0,.int .i64 0,.int .i64 0,.int .i64 0,.int .i64 0,.int .i64 0,.int .i64 0,.bool false] 91)).heap[wr.heap.size]? = some (.cells #[.int .i64 0,.int .i64 0,.int .i64 0,.int .i64 0,.int .i64 0,.int .i64 0,.int .i64 0,.bool false] 91 (0,0)) := hz
   have hlo : Hid (w2.heap.size ≤ wr.heap.size) := hI1.out.low.size
   have hqn : Hid ((L.take k).length ≤ 9000) := by have := hlen.out; show _ ≤ _; omega
   clear hz
   go_wp2_with (first | (refine wpList_load_mid rfl 91 _ rfl b (o + k * 8) rfl (itL x) _ hrg Tryz.underlying91 rfl (info80l x) ?_) | (refine wpList_store_row rfl 91 _ _ rfl wr.heap.size (itL x).toArray rfl rfl 91 _ hz0 (info80 x) rfl (itL_all x) ?_; have hz1 : ((wr.alloc (.cells #[.int .i64 0,.int .i64 0,.int .i64 0,.int .i64 0,.int .i64 0,.int .i64 0,.int .i64 0,.bool false] 91)).setRow wr.heap.size (itL x).toArray).heap[wr.heap.size]? = some (.cells (itL x).toArray 91 (0,0)) := setRow_heap _ _ _ _ _ _ hz0; have hIs : Hid (PiI w w2 (.slice va (L.take k).length vc) (L.take k) ((wr.alloc (.cells #[.int .i64 0,.int .i64 0,.int .i64 0,.int .i64 0,.int .i64 0,.int .i64 0,.int .i64 0,.bool false] 91)).setRow wr.heap.size (itL x).toArray)) := hI1.out.box; clear hz0 hI1 hrg; generalize (wr.alloc (.cells #[.int .i64 0,.int .i64 0,.int .i64 0,.int .i64 0,.int .i64 0,.int .i64 0,.int .i64 0,.bool false] 91)).setRow wr.heap.size (itL x).toArray = w5 at *; generalize wr.heap.size = g7 at *; have c3 : w5.cell? ⟨g7,3,none⟩ = some (.int .i64 x.w) := (Lib.cell_of_heap hz1 _).trans rfl; have hle5 : w2.heap.size ≤ w5.heap.size := hIs.out.low.size))
   go_loopw [5] (fun v5 wq => v5 = .slice va k vc ∧ wq = w5) (fun _ _ => 0)
   case atStart => exact ⟨rfl,rfl⟩
   case round =>
    obtain ⟨rfl,hwq⟩ := hrel
    subst hwq
    go_wp2_with (first | (refine wpList_load_row rfl 91 _ rfl g7 rfl 91 _ (0,0) _ hz1 Tryz.underlying91 rfl (info80 x) ?_) | (refine wpList_build80 rfl _ rfl x rfl ?_) | (refine wpList_app1 (k := 8) (f := itL) (w0 := wr) (bytes := 64) rfl el80 itL_len itL_one (by omega) (by omega) _ _ rfl w2.heap.size (.slice va (L.take k).length vc) (L.take k) x (by rw [hlen.out]; rfl) hIs.out.row hle5 hqn.out rfl rfl ?_; intro v' w6 hr6 hb6; obtain ⟨g6,cap6,rfl,-,-,-⟩ := row_rb itL_len hr6 (by simp); have hI6 : Hid (PiI w w2 (.slice (some ⟨g6,0,none⟩) (L.take k ++ [x]).length cap6) (L.take k ++ [x]) w6) := hIs.out.app hr6 hb6; clear hr6 hb6 hIs hle5))
    refine ⟨⟨k + 1,some ⟨g6,0,none⟩,cap6,by omega,rfl,rfl,?_⟩,by simp [intOf]; omega⟩
    have h := hnx.out _ _ hI6.out
    rw [show (L.take k ++ [x]).length = k + 1 by rw [List.length_append,hlen.out]; rfl] at h
    exact h
  ·have hge : ¬ (k : Int) < (L.length : Int) := by omega
   have hkn : k = L.length := by omega
   subst hkn
   clear hWh hvh
   go_wp2_with fail
   refine hend.out _ _ (hb2h.out.trans (hI.out.low.mono hb2h.out.size)) ?_
   have := hI.out.row
   rw [List.take_length] at this
   exact rec_of_row itL_len rfl this
end Go.Proofs.YtlgcnbomfhmjiaaGreatDoor
