/-
  What is proved here: what isWide and flag of para answer.
  What is proved here: what begin, upTo, legal, width, next of first answer.
-/
import Derived.Test.YtaphggjakaghjaaGreatDoorG1
import Derived.Test.YtaphggjakaghjaaGreatDoorG13
import Derived.Test.YtaphggjakaghjaaGreatDoorG14
import Derived.Test.YtaphggjakaghjaaGreatDoorRows
import Derived.Test.YtaphggjakaghjaaGreatDoorG2
import Derived.BigQuiet
import Derived.Handy
import Derived.Test.YtaphggjakaghjaaGreatDoorG9
import Derived.Deep.MidRow
import Derived.Test.YtaphggjakaghjaaGreatDoorG4
import Derived.Test.YtaphggjakaghjaaGreatDoorG5
import Derived.Test.YtaphggjakaghjaaGreatDoorG7
namespace Go.Proofs.YtaphggjakaghjaaGreatDoor
open Go.RowKit Go.Shelf
set_option maxRecDepth 100000
set_option maxHeartbeats 2000000

theorem slice55 (a : Option Addr) (n cap f t : Nat) (h1 : f ≤ t) (h2 : t ≤ cap) : ∃ a',(∀ W,(Instr.slice 111 (.slice a n cap) (some (.int .i64 (f : Int))) (some (.int .i64 (t : Int))) none).run Tryz.prog W = .ok (.slice a' (t - f) (cap - f)) W) ∧ (∀ b o,a = some ⟨b,o,none⟩ → f < t → a' = some ⟨b,o + f * 8,none⟩) := by
 have he : Tryz.prog.elem 111 = 125 := by kernel_rfl
 have hu : Tryz.prog.underlying 111 = some (.slice (Tryz.prog.elem 111)) := by rw [he]; exact Tryz.underlying111
 refine ⟨if cap = f then a else a.map (fun x => x.add (f * 8)),fun W => ?_,fun b o e hlt => ?_⟩
 ·have hr := run_slice_lh (P := Tryz.prog) (w := W) 111 a n cap hu .i64 .i64 f t (by omega) (by omega) (by omega)
  have hs : (sizeOf (Tryz.prog.elem 111)).run Tryz.prog W = .ok 8 W := by kernel_rfl
  rw [hs] at hr
  simpa only [Result.andThen,sliced,Int.toNat_natCast] using hr
 ·rw [if_neg (by omega),e]
  simp [addr_add]
def wdB (l : List It) (x : Pc) (s : Sl) : Bool := decide (s.w + giH (subL l x.a x.b) 0 ((x.b : Int) - x.a) < x.nt)
theorem giH_rng {l : List It} (h : ckL l = 0) (a b : Int) : 0 ≤ giH l a b ∧ giH l a b ≤ 40000000 := by
 unfold giH
 split
 ·rename_i h1
  have h2 := ck_len h
  unfold rfL at h1
  rw [if_neg (by rw [h]; exact fun h => h rfl)] at h1
  split at h1
  ·rename_i h3
   have h4 := shN_le l a.toNat (b.toNat - a.toNat)
   have := (su_rng h (a := a.toNat) (shN l a.toNat (b.toNat - a.toNat)) (by omega)).2
   omega
  ·cases h1
 ·omega
structure WiW (X : Nat) (x : Pc) (s : Sl) (l : List It) (v u : Value) (W : World) : Prop where
 px : W.heap[X]? = some (.cells (pcL x).toArray 122 (0,0))
 ps : W.heap[X + 1]? = some (.cells (slL s).toArray 98 (0,0))
 hl : ItsAt W v l
 hu : ItsAt W u (subL l x.a x.b)
theorem WiW.below {X : Nat} {x : Pc} {s : Sl} {l : List It} {v u : Value} {W W' : World} (h : WiW X x s l v u W) (hb : Below W.heap.size W W') : WiW X x s l v u W' :=
 ⟨(hb.block _ (Array.getElem?_eq_some_iff.1 h.px).1).trans h.px,(hb.block _ (Array.getElem?_eq_some_iff.1 h.ps).1).trans h.ps,h.hl.below hb (Nat.le_refl _),h.hu.below hb (Nat.le_refl _)⟩
theorem WiW.c0 {X : Nat} {x : Pc} {s : Sl} {l : List It} {v u : Value} {W : World} (h : WiW X x s l v u W) : W.cell? ⟨X,0,none⟩ = some (.int .i64 (x.a : Nat)) := (Lib.cell_of_heap h.px _).trans rfl
theorem WiW.c1 {X : Nat} {x : Pc} {s : Sl} {l : List It} {v u : Value} {W : World} (h : WiW X x s l v u W) : W.cell? ⟨X,1,none⟩ = some (.int .i64 (x.b : Nat)) := (Lib.cell_of_heap h.px _).trans rfl
theorem WiW.c4 {X : Nat} {x : Pc} {s : Sl} {l : List It} {v u : Value} {W : World} (h : WiW X x s l v u W) : W.cell? ⟨X,4,none⟩ = some (.int .i64 x.nt) := (Lib.cell_of_heap h.px _).trans rfl
theorem WiW.d1 {X : Nat} {x : Pc} {s : Sl} {l : List It} {v u : Value} {W : World} (h : WiW X x s l v u W) : W.cell? ⟨X + 1,1,none⟩ = some (.int .i64 s.w) := (Lib.cell_of_heap h.ps _).trans rfl
theorem wrap_sm {a b : Nat} (h : a ≤ b ∧ b ≤ 8192) : IntKind.i64.wrap ((b : Int) - a) = (b : Int) - a := by rw [IntKind.wrap_i64]; omega
def frp35 (v0 v1 v2 v3 v4 v5 v6 v7 v8 v9 xa xb xc xd xe xf xg xh xi xj xk xl xm xn xo xp xq xr xt xu xv xw xx : Value) : Act := { tmps := #[v0,v1,v2,v3,v4,v5,v6,v7,v8,v9,xa,xb,xc,xd,xe,xf,xg,xh,xi,xj,xk,xl,xm,xn,xo,xp,xq,xr,xt,xu,xv,xw,xx],defers := [] }
def opp35_1_0 (ps : String) : Oper := ⟨some 11,.move (.tmp 0),111,ps,#[],none⟩
def opp35_1_1 (ps : String) : Oper := ⟨some 12,.fieldAddr 122 (.tmp 4) 0,0,ps,#[],none⟩
def opp35_1_2 (ps : String) : Oper := ⟨some 13,.load 3 (.tmp 12),3,ps,#[⟨1,.data⟩],none⟩
def opp35_1_3 (ps : String) : Oper := ⟨some 14,.fieldAddr 122 (.tmp 4) 1,0,ps,#[],none⟩
def opp35_1_4 (ps : String) : Oper := ⟨some 15,.load 3 (.tmp 14),3,ps,#[⟨3,.data⟩],none⟩
def opp35_1_5 (ps : String) : Oper := ⟨some 16,.slice 111 (.tmp 11) (some (.tmp 13)) (some (.tmp 15)) none,111,ps,#[⟨0,.data⟩,⟨2,.data⟩,⟨4,.data⟩],none⟩
def opp35_1_6 (ps : String) : Oper := ⟨some 17,.fieldAddr 122 (.tmp 4) 1,0,ps,#[],none⟩
def opp35_1_7 (ps : String) : Oper := ⟨some 18,.load 3 (.tmp 17),3,ps,#[⟨6,.data⟩],none⟩
def opp35_1_8 (ps : String) : Oper := ⟨some 19,.fieldAddr 122 (.tmp 4) 0,0,ps,#[],none⟩
def opp35_1_9 (ps : String) : Oper := ⟨some 20,.load 3 (.tmp 19),3,ps,#[⟨8,.data⟩],none⟩
def opp35_1_10 (ps : String) : Oper := ⟨some 21,.binOp .sub 3 (.tmp 18) (.tmp 20) 3,3,ps,#[⟨7,.data⟩,⟨9,.data⟩],none⟩
def opp35_1_11 (ps : String) : Oper := ⟨some 22,.call ⟨.value (.func 109),#[.tmp 16,.const (.int .i64 0),.tmp 21],#[111,3,3]⟩,175,ps,#[⟨5,.data⟩,⟨10,.data⟩],none⟩
def opp35_1_12 (ps : String) : Oper := ⟨some 10,.move (.tmp 22),175,ps,#[⟨11,.data⟩],none⟩
def opp35_1_13 (ps : String) : Oper := ⟨some 23,.extract (.tmp 10) 0,3,ps,#[⟨12,.data⟩],none⟩
def opp35_1_14 (ps : String) : Oper := ⟨some 24,.extract (.tmp 10) 1,3,ps,#[⟨12,.data⟩,⟨16,.gcOnly .lateStores⟩],none⟩
def opp35_1_15 (ps : String) : Oper := ⟨some 25,.extract (.tmp 10) 2,28,ps,#[⟨12,.data⟩,⟨17,.gcOnly .lateStores⟩],none⟩
def opp35_1_16 (ps : String) : Oper := ⟨some 7,.assign (.tmp 23),3,ps,#[⟨13,.data⟩,⟨11,.chain⟩,⟨0,.phase⟩,⟨1,.phase⟩,⟨2,.phase⟩,⟨3,.phase⟩,⟨4,.phase⟩,⟨5,.phase⟩,⟨6,.phase⟩,⟨7,.phase⟩,⟨8,.phase⟩,⟨9,.phase⟩,⟨10,.phase⟩,⟨11,.phase⟩,⟨12,.phase⟩,⟨13,.phase⟩,⟨14,.textOnly .lateStores⟩,⟨15,.textOnly .lateStores⟩],none⟩
def opp35_1_17 (ps : String) : Oper := ⟨some 8,.assign (.tmp 24),3,ps,#[⟨14,.data⟩,⟨16,.chain⟩,⟨0,.phase⟩,⟨1,.phase⟩,⟨2,.phase⟩,⟨3,.phase⟩,⟨4,.phase⟩,⟨5,.phase⟩,⟨6,.phase⟩,⟨7,.phase⟩,⟨8,.phase⟩,⟨9,.phase⟩,⟨10,.phase⟩,⟨11,.phase⟩,⟨12,.phase⟩,⟨13,.phase⟩,⟨14,.phase⟩,⟨15,.textOnly .lateStores⟩,⟨16,.phase⟩],none⟩
def opp35_1_18 (ps : String) : Oper := ⟨some 9,.assign (.tmp 25),28,ps,#[⟨15,.data⟩,⟨17,.chain⟩,⟨0,.phase⟩,⟨1,.phase⟩,⟨2,.phase⟩,⟨3,.phase⟩,⟨4,.phase⟩,⟨5,.phase⟩,⟨6,.phase⟩,⟨7,.phase⟩,⟨8,.phase⟩,⟨9,.phase⟩,⟨10,.phase⟩,⟨11,.phase⟩,⟨12,.phase⟩,⟨13,.phase⟩,⟨14,.phase⟩,⟨15,.phase⟩,⟨16,.phase⟩,⟨17,.phase⟩],none⟩
def opp35_1 (ps : String) : Array Oper := #[opp35_1_0 ps,opp35_1_1 ps,opp35_1_2 ps,opp35_1_3 ps,opp35_1_4 ps,opp35_1_5 ps,opp35_1_6 ps,opp35_1_7 ps,opp35_1_8 ps,opp35_1_9 ps,opp35_1_10 ps,opp35_1_11 ps,opp35_1_12 ps,opp35_1_13 ps,opp35_1_14 ps,opp35_1_15 ps,opp35_1_16 ps,opp35_1_17 ps,opp35_1_18 ps]

theorem wi_r1 (Q : Exit → Act → World → Prop) (hQ : ∀ c x (n : Nat) v w,Q (.panic c) (x.put (some n) v) w → Q (.panic c) x w) (id : Nat) (ps : String) {v1 v2 v3 v6 v7 v8 v9 xa xb xc xd xe xf xg xh xi xj xk xl xm xn xo xp xq xr xt xu xv xw xx : Value} (z : World) (X : Nat) (x : Pc) (s : Sl) (l : List It) (a1 a2 : Option Addr) (cap : Nat) (w : World) (hS : WiW X x s l (.slice a1 l.length cap) (.slice a2 (x.b - x.a) (cap - x.a)) (World.drew w))
  (hz0 : Below z.heap.size z (World.drew w)) (hxb : x.a ≤ x.b ∧ x.b ≤ 8192) (hsl : ∀ W,(Instr.slice 111 (.slice a1 l.length cap) (some (.int .i64 (x.a : Nat))) (some (.int .i64 (x.b : Nat))) none).run Tryz.prog W = .ok (.slice a2 (x.b - x.a) (cap - x.a)) W)
  (hq : ∀ w',Below z.heap.size z w' → (WiW X x s l (.slice a1 l.length cap) (.slice a2 (x.b - x.a) (cap - x.a))) w' → Q .normal (frp35 (.slice a1 l.length cap) v1 v2 v3 (.pointer (some ⟨X,0,none⟩)) (.pointer (some ⟨X + 1,0,none⟩)) v6 (.int .i64 (giS (subL l x.a x.b) 0 ((x.b : Int) - x.a))) (.int .i64 (giH (subL l x.a x.b) 0 ((x.b : Int) - x.a))) (.int .i64 (rfL (subL l x.a x.b) 0 ((x.b : Int) - x.a))) (.tuple #[.int .i64 (giS (subL l x.a x.b) 0 ((x.b : Int) - x.a)),.int .i64 (giH (subL l x.a x.b) 0 ((x.b : Int) - x.a)),.int .i64 (rfL (subL l x.a x.b) 0 ((x.b : Int) - x.a))]) (.slice a1 l.length cap) (.pointer (some ⟨X,0,none⟩)) (.int .i64 (x.a : Nat)) (.pointer (some ⟨X,1,none⟩)) (.int .i64 (x.b : Nat)) (.slice a2 (x.b - x.a) (cap - x.a)) (.pointer (some ⟨X,1,none⟩)) (.int .i64 (x.b : Nat)) (.pointer (some ⟨X,0,none⟩)) (.int .i64 (x.a : Nat)) (.int .i64 ((x.b : Int) - x.a)) (.tuple #[.int .i64 (giS (subL l x.a x.b) 0 ((x.b : Int) - x.a)),.int .i64 (giH (subL l x.a x.b) 0 ((x.b : Int) - x.a)),.int .i64 (rfL (subL l x.a x.b) 0 ((x.b : Int) - x.a))]) (.int .i64 (giS (subL l x.a x.b) 0 ((x.b : Int) - x.a))) (.int .i64 (giH (subL l x.a x.b) 0 ((x.b : Int) - x.a))) (.int .i64 (rfL (subL l x.a x.b) 0 ((x.b : Int) - x.a))) xq xr xt xu xv xw xx) w') :
  (Code.region id (opp35_1 ps) true).wp Tryz.prog Q (frp35 (.slice a1 l.length cap) v1 v2 v3 (.pointer (some ⟨X,0,none⟩)) (.pointer (some ⟨X + 1,0,none⟩)) v6 v7 v8 v9 xa xb xc xd xe xf xg xh xi xj xk xl xm xn xo xp xq xr xt xu xv xw xx) w := by
 refine wp_region_held (S := WiW X x s l (.slice a1 l.length cap) (.slice a2 (x.b - x.a) (cap - x.a))) (by kernel_rfl) ?_
 change wpAnyH _ _ _ _ _ 19 _ _ (World.drew w)
 refine take_r 0 ⟨some 11,.move (.tmp 0),111,ps,#[],none⟩ (.slice a1 l.length cap) hQ (fun w _ => by kernel_rfl) hS ?_
 refine take_r 1 ⟨some 12,.fieldAddr 122 (.tmp 4) 0,0,ps,#[],none⟩ (.pointer (some ⟨X,0,none⟩)) hQ (fun w hS => by unfold frp35; go_simp) hS ?_
 refine take_r 2 ⟨some 13,.load 3 (.tmp 12),3,ps,#[⟨1,.data⟩],none⟩ (.int .i64 (x.a : Nat)) hQ (fun w hS => by have e := hS.c0; unfold frp35; go_simp) hS ?_
 refine take_r 3 ⟨some 14,.fieldAddr 122 (.tmp 4) 1,0,ps,#[],none⟩ (.pointer (some ⟨X,1,none⟩)) hQ (fun w hS => by unfold frp35; go_simp) hS ?_
 refine take_r 4 ⟨some 15,.load 3 (.tmp 14),3,ps,#[⟨3,.data⟩],none⟩ (.int .i64 (x.b : Nat)) hQ (fun w hS => by have e := hS.c1; unfold frp35; go_simp) hS ?_
 refine take_k 5 (opp35_1_5 ps) (.slice a2 (x.b - x.a) (cap - x.a)) (frp35 (.slice a1 l.length cap) v1 v2 v3 (.pointer (some ⟨X,0,none⟩)) (.pointer (some ⟨X + 1,0,none⟩)) v6 v7 v8 v9 xa (.slice a1 l.length cap) (.pointer (some ⟨X,0,none⟩)) (.int .i64 (x.a : Nat)) (.pointer (some ⟨X,1,none⟩)) (.int .i64 (x.b : Nat)) (.slice a2 (x.b - x.a) (cap - x.a)) xh xi xj xk xl xm xn xo xp xq xr xt xu xv xw xx) hQ (fun w hS => by have e := hsl w; unfold frp35 opp35_1_5; go_simp) hS ?_
 refine take_r 6 ⟨some 17,.fieldAddr 122 (.tmp 4) 1,0,ps,#[],none⟩ (.pointer (some ⟨X,1,none⟩)) hQ (fun w hS => by unfold frp35; go_simp) hS ?_
 refine take_r 7 ⟨some 18,.load 3 (.tmp 17),3,ps,#[⟨6,.data⟩],none⟩ (.int .i64 (x.b : Nat)) hQ (fun w hS => by have e := hS.c1; unfold frp35; go_simp) hS ?_
 refine take_r 8 ⟨some 19,.fieldAddr 122 (.tmp 4) 0,0,ps,#[],none⟩ (.pointer (some ⟨X,0,none⟩)) hQ (fun w hS => by unfold frp35; go_simp) hS ?_
 refine take_r 9 ⟨some 20,.load 3 (.tmp 19),3,ps,#[⟨8,.data⟩],none⟩ (.int .i64 (x.a : Nat)) hQ (fun w hS => by have e := hS.c0; unfold frp35; go_simp) hS ?_
 refine take_r 10 ⟨some 21,.binOp .sub 3 (.tmp 18) (.tmp 20) 3,3,ps,#[⟨7,.data⟩,⟨9,.data⟩],none⟩ (.int .i64 ((x.b : Int) - x.a)) hQ (fun w hS => by unfold frp35; go_simp; try exact wrap_sm hxb) hS ?_
 refine want_k 11 (opp35_1_11 ps) fun K hK => ?_
 unfold frp35 opp35_1_11
 go_simp
 refine (give_any (.slice a2 (x.b - x.a) (cap - x.a)) (subL l x.a x.b) 0 ((x.b : Int) - x.a) _ hS.hu).mono ?_
 rintro e w1 ⟨rfl,hb1⟩
 have hS1 : WiW X x s l (.slice a1 l.length cap) (.slice a2 (x.b - x.a) (cap - x.a)) w1 := hS.below hb1
 have hz1 := hz0.trans (hb1.mono hz0.size)
 refine hK _ _ hS1 (cast_h (frp35 (.slice a1 l.length cap) v1 v2 v3 (.pointer (some ⟨X,0,none⟩)) (.pointer (some ⟨X + 1,0,none⟩)) v6 v7 v8 v9 xa (.slice a1 l.length cap) (.pointer (some ⟨X,0,none⟩)) (.int .i64 (x.a : Nat)) (.pointer (some ⟨X,1,none⟩)) (.int .i64 (x.b : Nat)) (.slice a2 (x.b - x.a) (cap - x.a)) (.pointer (some ⟨X,1,none⟩)) (.int .i64 (x.b : Nat)) (.pointer (some ⟨X,0,none⟩)) (.int .i64 (x.a : Nat)) (.int .i64 ((x.b : Int) - x.a)) (.tuple #[.int .i64 (giS (subL l x.a x.b) 0 ((x.b : Int) - x.a)),.int .i64 (giH (subL l x.a x.b) 0 ((x.b : Int) - x.a)),.int .i64 (rfL (subL l x.a x.b) 0 ((x.b : Int) - x.a))]) xn xo xp xq xr xt xu xv xw xx) (by kernel_rfl) ?_)
 clear hK K
 refine take_r 12 ⟨some 10,.move (.tmp 22),175,ps,#[⟨11,.data⟩],none⟩ (.tuple #[.int .i64 (giS (subL l x.a x.b) 0 ((x.b : Int) - x.a)),.int .i64 (giH (subL l x.a x.b) 0 ((x.b : Int) - x.a)),.int .i64 (rfL (subL l x.a x.b) 0 ((x.b : Int) - x.a))]) hQ (fun w _ => by kernel_rfl) hS1 ?_
 refine take_r 13 ⟨some 23,.extract (.tmp 10) 0,3,ps,#[⟨12,.data⟩],none⟩ (.int .i64 (giS (subL l x.a x.b) 0 ((x.b : Int) - x.a))) hQ (fun w _ => by kernel_rfl) hS1 ?_
 refine take_r 14 ⟨some 24,.extract (.tmp 10) 1,3,ps,#[⟨12,.data⟩,⟨16,.gcOnly .lateStores⟩],none⟩ (.int .i64 (giH (subL l x.a x.b) 0 ((x.b : Int) - x.a))) hQ (fun w _ => by kernel_rfl) hS1 ?_
 refine take_r 15 ⟨some 25,.extract (.tmp 10) 2,28,ps,#[⟨12,.data⟩,⟨17,.gcOnly .lateStores⟩],none⟩ (.int .i64 (rfL (subL l x.a x.b) 0 ((x.b : Int) - x.a))) hQ (fun w _ => by kernel_rfl) hS1 ?_
 refine take_r 16 ⟨some 7,.assign (.tmp 23),3,ps,#[⟨13,.data⟩,⟨11,.chain⟩,⟨0,.phase⟩,⟨1,.phase⟩,⟨2,.phase⟩,⟨3,.phase⟩,⟨4,.phase⟩,⟨5,.phase⟩,⟨6,.phase⟩,⟨7,.phase⟩,⟨8,.phase⟩,⟨9,.phase⟩,⟨10,.phase⟩,⟨11,.phase⟩,⟨12,.phase⟩,⟨13,.phase⟩,⟨14,.textOnly .lateStores⟩,⟨15,.textOnly .lateStores⟩],none⟩ (.int .i64 (giS (subL l x.a x.b) 0 ((x.b : Int) - x.a))) hQ (fun w _ => by kernel_rfl) hS1 ?_
 refine take_k 17 (opp35_1_17 ps) (.int .i64 (giH (subL l x.a x.b) 0 ((x.b : Int) - x.a))) (frp35 (.slice a1 l.length cap) v1 v2 v3 (.pointer (some ⟨X,0,none⟩)) (.pointer (some ⟨X + 1,0,none⟩)) v6 (.int .i64 (giS (subL l x.a x.b) 0 ((x.b : Int) - x.a))) (.int .i64 (giH (subL l x.a x.b) 0 ((x.b : Int) - x.a))) v9 (.tuple #[.int .i64 (giS (subL l x.a x.b) 0 ((x.b : Int) - x.a)),.int .i64 (giH (subL l x.a x.b) 0 ((x.b : Int) - x.a)),.int .i64 (rfL (subL l x.a x.b) 0 ((x.b : Int) - x.a))]) (.slice a1 l.length cap) (.pointer (some ⟨X,0,none⟩)) (.int .i64 (x.a : Nat)) (.pointer (some ⟨X,1,none⟩)) (.int .i64 (x.b : Nat)) (.slice a2 (x.b - x.a) (cap - x.a)) (.pointer (some ⟨X,1,none⟩)) (.int .i64 (x.b : Nat)) (.pointer (some ⟨X,0,none⟩)) (.int .i64 (x.a : Nat)) (.int .i64 ((x.b : Int) - x.a)) (.tuple #[.int .i64 (giS (subL l x.a x.b) 0 ((x.b : Int) - x.a)),.int .i64 (giH (subL l x.a x.b) 0 ((x.b : Int) - x.a)),.int .i64 (rfL (subL l x.a x.b) 0 ((x.b : Int) - x.a))]) (.int .i64 (giS (subL l x.a x.b) 0 ((x.b : Int) - x.a))) (.int .i64 (giH (subL l x.a x.b) 0 ((x.b : Int) - x.a))) (.int .i64 (rfL (subL l x.a x.b) 0 ((x.b : Int) - x.a))) xq xr xt xu xv xw xx) hQ (fun w _ => by kernel_rfl) hS1 ?_
 refine take_r 18 ⟨some 9,.assign (.tmp 25),28,ps,#[⟨15,.data⟩,⟨17,.chain⟩,⟨0,.phase⟩,⟨1,.phase⟩,⟨2,.phase⟩,⟨3,.phase⟩,⟨4,.phase⟩,⟨5,.phase⟩,⟨6,.phase⟩,⟨7,.phase⟩,⟨8,.phase⟩,⟨9,.phase⟩,⟨10,.phase⟩,⟨11,.phase⟩,⟨12,.phase⟩,⟨13,.phase⟩,⟨14,.phase⟩,⟨15,.phase⟩,⟨16,.phase⟩,⟨17,.phase⟩],none⟩ (.int .i64 (rfL (subL l x.a x.b) 0 ((x.b : Int) - x.a))) hQ (fun w _ => by kernel_rfl) hS1 ?_
 exact wpAnyH_done (by kernel_rfl) (hq _ hz1 hS1) _
theorem wide35 (v : Value) (l : List It) (x : Pc) (s : Sl) (hck : ckL l = 0) (hx : x.a ≤ x.b ∧ x.b ≤ l.length) (hs : okS s = true) (w : World) (hS : ItsAt w v l) : Calls Tryz.prog 78 #[v,.agg (pcL x).toArray,.agg (slL s).toArray] w fun e w' => e = .returned (.bool (wdB l x s)) ∧ Below w.heap.size w w' := by
 have hB := below2 w (.cells (pcL x).toArray 122) (.cells (slL s).toArray 98)
 have hl8 := ck_len hck
 have hgr := giH_rng (sub_ck hck (f := x.a) hx.2) 0 ((x.b : Int) - x.a)
 have hsr := okS_rng hs
 obtain ⟨a1,cap,rfl,-⟩ := hS.ex
 have hle := hS.le _ _ _ rfl
 obtain ⟨a2,hsl,ha2⟩ := slice55 a1 l.length cap x.a x.b hx.1 (by omega)
 have hW : Hid (WiW w.heap.size x s l (.slice a1 l.length cap) (.slice a2 (x.b - x.a) (cap - x.a)) ((w.alloc (.cells (pcL x).toArray 122)).alloc (.cells (slL s).toArray 98))) := ⟨(Below.heap_alloc _ _ _ (by simp)).trans (World.alloc_heap_new w _),alloc2_heap w _ _,hS.below hB (Nat.le_refl _),sub_its (hS.below hB (Nat.le_refl _)) hx.1 hx.2 ha2⟩
 have hBh : Hid (Below w.heap.size w ((w.alloc (.cells (pcL x).toArray 122)).alloc (.cells (slL s).toArray 98))) := hB
 have hxh : Hid (x.a ≤ x.b ∧ x.b ≤ 8192) := ⟨hx.1,by omega⟩
 have hslh : Hid (∀ W,(Instr.slice 111 (.slice a1 l.length cap) (some (.int .i64 (x.a : Nat))) (some (.int .i64 (x.b : Nat))) none).run Tryz.prog W = .ok (.slice a2 (x.b - x.a) (cap - x.a)) W) := hsl
 clear hB hS hck hx hle hsl ha2 hl8 hs
 unfold wdB
 go_enter Tryz.func78,Tryz.ntmps78
 go_wp2_with fail
 generalize (w.alloc (.cells (pcL x).toArray 122)).alloc (.cells (slL s).toArray 98) = wz at *
 refine wi_r1 _ (fun _ _ _ _ _ h => h) _ _ w w.heap.size x s l a1 a2 cap wz ⟨hW.out.px,hW.out.ps,hW.out.hl.below (below_drew _) (Nat.le_refl _),hW.out.hu.below (below_drew _) (Nat.le_refl _)⟩ hBh.out.drew hxh.out hslh.out ?_
 intro w3 hz3 hS3
 have e4 := hS3.c4
 have e5 := hS3.d1
 clear hS3 hslh hxh hBh hW
 obtain ⟨gh,hgh⟩ : ∃ gh,gh = giH (subL l x.a x.b) 0 ((x.b : Int) - x.a) := ⟨_,rfl⟩
 rw [← hgh] at hgr ⊢
 have hghh : Hid (gh = giH (subL l x.a x.b) 0 ((x.b : Int) - x.a)) := hgh
 clear hgh
 obtain ⟨g1,g2⟩ := hgr
 obtain ⟨-,s1,s2⟩ := hsr
 unfold frp35
 go_wp2_with fail
 go_ret
 exact ⟨by rw [← hghh.out]; rfl,hz3⟩
theorem flag34 (a b : Bool) (w : World) : Calls Tryz.prog 77 #[.bool a,.bool b] w fun e w' => e = .returned (.int .i64 ((if a then 1 else 0) + (if b then 2 else 0))) ∧ w' = w := by
 cases a <;> cases b
 all_goals go_enter Tryz.func77,Tryz.ntmps77
 all_goals go_wp2_with fail
 all_goals go_ret
 all_goals exact ⟨by simp,rfl⟩
end Go.Proofs.YtaphggjakaghjaaGreatDoor

namespace Go.Proofs.YtaphggjakaghjaaGreatDoor
open Go.RowKit Go.Shelf
set_option maxRecDepth 100000
set_option maxHeartbeats 2000000

theorem fbegin1_any (x : It) (w : World) : Calls Tryz.prog 282 #[.agg (itL x).toArray] w fun e w' => e = .returned (.bool (!(x.k == 2))) ∧ Below w.heap.size w w' := by
 obtain ⟨k0,f0,t0,w0,s0,h0,q0,y0⟩ := x
 have hB := (Below.refl w.heap.size w).alloc (Nat.le_refl _) (.cells #[.int .i64 k0,.int .i64 f0,.int .i64 t0,.int .i64 w0,.int .i64 s0,.int .i64 h0,.int .i64 q0,.bool y0] 125)
 show Calls Tryz.prog 282 #[.agg #[.int .i64 k0,.int .i64 f0,.int .i64 t0,.int .i64 w0,.int .i64 s0,.int .i64 h0,.int .i64 q0,.bool y0]] w _
 go_enter Tryz.func282,Tryz.ntmps282
 go_wp2_with fail
 go_ret
 exact ⟨rfl,hB⟩
theorem fbindex_any (v : Value) (l : List It) (hl : l.length ≤ 9223372036854775807) (w : World) (hS : ItsAt w v l) :
  Calls Tryz.prog 195 #[v,.func (.func 282) #[] #[]] w fun e w' => (∃ n : Int,e = .returned (.int .i64 n) ∧ (if n < 0 then (l.length : Int) else n) = (sk l 0 : Nat)) ∧ Below w.heap.size w w' := by
 obtain ⟨a,cap,rfl,-⟩ := hS.ex
 have hY : Hid (∀ k (hk : k < l.length),(∀ j,j < k → (itAt l j).k = 2) → (l[k].k == 2) = false → (if ((k : Nat) : Int) < 0 then (l.length : Int) else (k : Nat)) = (sk l 0 : Nat)) := fun k hk h1 e => by
  rw [if_neg (by omega)]
  congr 1
  exact (sk_at _ 0 k (by omega) hk (by omega) (fun j _ h => h1 j h) (by rw [itAt_is hk]; simpa using e)).symm
 have hN : Hid ((∀ j,j < l.length → (itAt l j).k = 2) → (if (-1 : Int) < 0 then (l.length : Int) else -1) = (sk l 0 : Nat)) := fun h => by
  rw [if_pos (by decide)]
  congr 1
  exact (sk_all _ 0 (by omega) (by omega) (fun j _ hj => h j hj)).symm
 have hSh : Hid (ItsAt w (.slice a l.length cap) l) := hS
 clear hS
 generalize sk l 0 = r at hY hN ⊢
 go_enter Tryz.func195,Tryz.ntmps195
 go_wp2_with fail
 go_loopw [8] (fun i wr => ∃ (k : Nat),k ≤ l.length ∧ i = .int .i64 k ∧ Below w.heap.size w wr ∧ Hid (∀ j,j < k → (itAt l j).k = 2)) (fun i _ => l.length - (intOf i).toNat)
 case atStart => exact ⟨0,by omega,rfl,Below.refl _ _,fun j hj => by omega⟩
 case round =>
  obtain ⟨k,hk,rfl,hb,hall⟩ := hrel
  by_cases hlt : k < l.length
  ·obtain ⟨b,o,rfl,hbl,hit⟩ := its_at hSh.out hlt
   have hi := hit wr hb
   have c0 := hi.c0
   have c1 := hi.c1
   have c2 := hi.c2
   have c3 := hi.c3
   have c4 := hi.c4
   have c5 := hi.c5
   have c6 := hi.c6
   have c7 := hi.c7
   have hlt' : (k : Int) < l.length := by omega
   have hm := fbegin1_any l[k] wr
   have hyes : Hid ((l[k].k == 2) = false → (if ((k : Nat) : Int) < 0 then (l.length : Int) else (k : Nat)) = (r : Nat)) := hY.out k hlt hall.out
   have hno : Hid ((l[k].k == 2) = true → ∀ j,j < k + 1 → (itAt l j).k = 2) := fun hv j hjk => by
    by_cases h : j < k
    ·exact hall.out j h
    ·obtain rfl : j = k := by omega
     rw [itAt_is hlt]; simpa using hv
   clear hY hN hall hit hSh hi
   generalize l[k] = it at *
   obtain ⟨k0,f0,t0,w0,s0,h0,q0,y0⟩ := it
   simp only at c0 c1 c2 c3 c4 c5 c6 c7 hm hyes hno
   have hm' : Hid (Calls Tryz.prog 282 #[.agg #[.int .i64 k0,.int .i64 f0,.int .i64 t0,.int .i64 w0,.int .i64 s0,.int .i64 h0,.int .i64 q0,.bool y0]] wr fun e w' => e = .returned (.bool (!(k0 == 2))) ∧ Below wr.heap.size wr w') := hm
   clear hm
   cases hv : (k0 == 2) with
   | false =>
    have hn' : Hid ((if ((k : Nat) : Int) < 0 then (l.length : Int) else (k : Nat)) = (r : Nat)) := hyes.out hv
    rw [hv] at hm'
    clear hyes hno hv
    go_wp2_with (go_at_call 282; refine hm'.out.mono ?_; rintro e w' ⟨rfl,hb2⟩)
    go_ret
    exact ⟨⟨_,rfl,hn'.out⟩,hb.trans (hb2.mono hb.size)⟩
   | true =>
    have hn : Hid (∀ j,j < k + 1 → (itAt l j).k = 2) := hno.out hv
    rw [hv] at hm'
    clear hyes hno hv
    go_wp2_with (go_at_call 282; refine hm'.out.mono ?_; rintro e w' ⟨rfl,hb2⟩)
    go_roundw
    case rel => exact ⟨k + 1,by omega,by simp,hb.trans (hb2.mono hb.size),hn⟩
    case measure => simp [intOf]; omega
  ·have hn' : Hid ((if (-1 : Int) < 0 then (l.length : Int) else -1) = (r : Nat)) := hN.out (fun j hj => hall.out j (by omega))
   have hge : ¬ (k : Int) < l.length := by omega
   clear hY hN hall hSh
   go_wp2_with fail
   go_ret
   exact ⟨⟨_,rfl,hn'.out⟩,hb⟩

theorem fbegin_any (v : Value) (l : List It) (hl : l.length ≤ 9223372036854775807) (w : World) (hS : ItsAt w v l) :
  Calls Tryz.prog 241 #[v] w fun e w' => e = .returned (.int .i64 (sk l 0 : Nat)) ∧ Below w.heap.size w w' := by
 have hi : Hid (Calls Tryz.prog 195 #[v,.func (.func 282) #[] #[]] w fun e w' => (∃ n : Int,e = .returned (.int .i64 n) ∧ (if n < 0 then (l.length : Int) else n) = (sk l 0 : Nat)) ∧ Below w.heap.size w w') := fbindex_any v l hl w hS
 obtain ⟨a,cap,rfl,-⟩ := hS.ex
 clear hS
 generalize sk l 0 = r at *
 go_enter Tryz.func241,Tryz.ntmps241
 go_wp2_with (go_at_call 195; refine hi.out.mono ?_; rintro e w' ⟨⟨n,rfl,hn⟩,hb2⟩)
 all_goals (go_ret; first | (rw [if_pos (by omega)] at hn; exact ⟨by rw [← hn]; rfl,hb2⟩) | (rw [if_neg (by omega)] at hn; exact ⟨by rw [← hn]; rfl,hb2⟩))

theorem low22 (a : Option Addr) (n cap f : Nat) (h1 : f ≤ n) (h2 : n ≤ cap) : ∃ a',(∀ W : World,(Instr.slice 111 (.slice a n cap) (some (.int .i64 (f : Int))) none none).run Tryz.prog W = .ok (.slice a' (n - f) (cap - f)) W) ∧ ∀ b o,a = some ⟨b,o,none⟩ → f < n → a' = some ⟨b,o + f * 8,none⟩ := by
 have he : Tryz.prog.elem 111 = 125 := by kernel_rfl
 have hu : Tryz.prog.underlying 111 = some (.slice (Tryz.prog.elem 111)) := by rw [he]; exact Tryz.underlying111
 have hr := fun W => run_slice_l (P := Tryz.prog) (w := W) 111 a n cap hu .i64 f (by omega) (by omega)
 have hs : ∀ W,(sizeOf (Tryz.prog.elem 111)).run Tryz.prog W = .ok 8 W := fun W => by kernel_rfl
 simp only [hs,Result.andThen,sliced,Int.toNat_natCast] at hr
 refine ⟨_,hr,fun b o e hlt => ?_⟩
 rw [if_neg (by omega),e]
 simp [addr_add]
theorem upTo_any (a : Option Addr) (n cap b : Nat) (hb : b ≤ n) (hn : n ≤ 8192) (hc : n ≤ cap) (w : World) :
  Calls Tryz.prog 306 #[.slice a n cap,.int .i64 b] w fun e w' => e = .returned (.slice a (min (b + 1) n) cap) ∧ w' = w := by
 have h1 : (b : Int) ≤ n := by omega
 have h2 : (n : Int) ≤ 8192 := by omega
 have h3 : (n : Int) ≤ cap := by omega
 by_cases h : b < n
 ·rw [Nat.min_eq_left (by omega)]
  have h' : (b : Int) + 1 ≤ n := by omega
  have h'' : (b : Int) + 1 ≤ cap := by omega
  go_enter Tryz.func306,Tryz.ntmps306
  go_wp2_with fail
  all_goals (first | (exfalso; omega) | (go_ret; exact ⟨rfl,rfl⟩))
 ·obtain rfl : b = n := by omega
  rw [Nat.min_eq_right (by omega)]
  go_enter Tryz.func306,Tryz.ntmps306
  go_wp2_with fail
  all_goals (first | (exfalso; omega) | (go_ret; exact ⟨rfl,rfl⟩))
theorem flegal_any (v : Value) (l : List It) (b : Nat) (h : ckL l = 0) (h0 : 0 < b) (hb : b ≤ l.length) (w : World) (hS : ItsAt w v l) :
  Calls Tryz.prog 283 #[v,.int .i64 b] w fun e w' => e = .returned (.bool (enB l b)) ∧ Below w.heap.size w w' := by
 obtain ⟨a,cap,rfl,-⟩ := hS.ex
 have hle := hS.le _ _ _ rfl
 have h8 := ck_len h
 have hm : min (b + 1) l.length ≤ l.length := Nat.min_le_right _ _
 have hmb : b - 1 ≤ min (b + 1) l.length := by omega
 obtain ⟨a',hr,ha'⟩ := low22 a (min (b + 1) l.length) cap (b - 1) hmb (by omega)
 have hI := sub_its hS hmb hm (fun g o e h => ha' g o e h)
 have hu : Hid (Calls Tryz.prog 306 #[.slice a l.length cap,.int .i64 b] w fun e w' => e = .returned (.slice a (min (b + 1) l.length) cap) ∧ w' = w) := upTo_any a l.length cap b hb h8 hle w
 have hL : Hid (Calls Tryz.prog 270 #[.slice a' (min (b + 1) l.length - (b - 1)) (cap - (b - 1)),.int .i64 1] w fun e w' => e = .returned (.bool (enB l b)) ∧ Below w.heap.size w w') := by
  have := legal_any _ _ 1 w hI
  rw [sub_legal h h0 hb] at this
  exact this
 have hr1 : (Instr.slice 111 (.slice a (min (b + 1) l.length) cap) (some (.int .i64 ((b : Int) - 1))) none none).run Tryz.prog w = .ok (.slice a' (min (b + 1) l.length - (b - 1)) (cap - (b - 1))) w := by
  have := hr w
  rwa [show ((b - 1 : Nat) : Int) = (b : Int) - 1 by omega] at this
 have h1' : (1 : Int) ≤ b := by omega
 have hb' : (b : Int) ≤ 8192 := by omega
 clear hI hS hr ha' hmb hm h h8 hle
 generalize min (b + 1) l.length = m at *
 generalize enB l b = q at *
 go_enter Tryz.func283,Tryz.ntmps283
 go_wp2_with (first | (go_at_call 306; refine hu.out.mono ?_; rintro e w' ⟨rfl,rfl⟩) | (go_at_call 270; refine hL.out.mono ?_; rintro e w' ⟨rfl,hb2⟩))
 go_ret
 exact ⟨rfl,hb2⟩
theorem fwidth_any (v : Value) (l : List It) (A b : Nat) (x : Int) (h : ckL l = 0) (h0 : A ≤ b) (hb : b ≤ l.length) (hx : 0 ≤ x ∧ x ≤ 4095) (w : World) (hS : ItsAt w v l) :
  Calls Tryz.prog 284 #[v,.int .i64 A,.int .i64 b,.int .i64 x] w fun e w' => e = .returned (.int .i64 (ntV l A b x)) ∧ Below w.heap.size w w' := by
 obtain ⟨a,cap,rfl,-⟩ := hS.ex
 have hle := hS.le _ _ _ rfl
 have h8 := ck_len h
 have hm : min (b + 1) l.length ≤ l.length := Nat.min_le_right _ _
 have hmb : A ≤ min (b + 1) l.length := by omega
 obtain ⟨a',hr,ha'⟩ := low22 a (min (b + 1) l.length) cap A hmb (by omega)
 have hI := sub_its hS hmb hm (fun g o e h => ha' g o e h)
 have hu : Hid (Calls Tryz.prog 306 #[.slice a l.length cap,.int .i64 b] w fun e w' => e = .returned (.slice a (min (b + 1) l.length) cap) ∧ w' = w) := upTo_any a l.length cap b hb h8 hle w
 have hL : Hid (Calls Tryz.prog 307 #[.slice a' (min (b + 1) l.length - A) (cap - A),.int .i64 0,.int .i64 ((b : Int) - A),.int .i64 x] w fun e w' => (∃ er,e = .returned (.tuple #[.int .i64 (ntV l A b x),.int .i64 er])) ∧ Below w.heap.size w w') := by
  have := iwidth_any _ _ 0 ((b - A : Nat) : Int) x w hI
  rw [sub_width h hx h0 hb] at this
  rw [show ((b - A : Nat) : Int) = (b : Int) - A by omega] at this
  exact this.mono fun e w' h => ⟨⟨_,h.1⟩,h.2⟩
 have hr1 : (Instr.slice 111 (.slice a (min (b + 1) l.length) cap) (some (.int .i64 (A : Int))) none none).run Tryz.prog w = .ok (.slice a' (min (b + 1) l.length - A) (cap - A)) w := hr w
 have h1' : (A : Int) ≤ b := by omega
 have hb' : (b : Int) ≤ 8192 := by omega
 clear hI hS hr ha' hmb hm h h8 hle
 generalize min (b + 1) l.length = m at *
 generalize ntV l A b x = q at *
 go_enter Tryz.func284,Tryz.ntmps284
 go_wp2_with (first | (go_at_call 306; refine hu.out.mono ?_; rintro e w' ⟨rfl,rfl⟩) | (go_at_call 307; refine hL.out.mono ?_; rintro e w' ⟨⟨er,rfl⟩,hb2⟩))
 go_ret
 exact ⟨rfl,hb2⟩
theorem fnext_any (v : Value) (l : List It) (b : Nat) (h : ckL l = 0) (hb : b ≤ l.length) (w : World) (hS : ItsAt w v l) :
  Calls Tryz.prog 243 #[v,.int .i64 b] w fun e w' => e = .returned (.int .i64 (bgN l b : Nat)) ∧ Below w.heap.size w w' := by
 obtain ⟨a,cap,rfl,-⟩ := hS.ex
 have hle := hS.le _ _ _ rfl
 have h8 := ck_len h
 obtain ⟨a',hr,ha'⟩ := low22 a l.length cap b hb (by omega)
 have hI := sub_its hS hb (Nat.le_refl _) (fun g o e h => ha' g o e h)
 have hst := sub_start h hb
 have hbg := bg_le hb
 have hL : Hid (Calls Tryz.prog 285 #[.slice a' (l.length - b) (cap - b),.int .i64 0] w fun e w' => (∃ er s,e = .returned (.tuple #[.int .i64 s,.int .i64 er]) ∧ (b : Int) + s = (bgN l b : Nat)) ∧ Below w.heap.size w w') := by
  have := start_any _ _ 0 w hI
  exact this.mono fun e w' h => ⟨⟨_,_,h.1,hst⟩,h.2⟩
 have hr1 : (Instr.slice 111 (.slice a l.length cap) (some (.int .i64 (b : Int))) none none).run Tryz.prog w = .ok (.slice a' (l.length - b) (cap - b)) w := hr w
 have hq : (bgN l b : Int) ≤ 8192 := by omega
 have hq0 : (b : Int) ≤ 8192 := by omega
 clear hI hS hr ha' h h8 hle hst hbg
 generalize bgN l b = q at *
 go_enter Tryz.func243,Tryz.ntmps243
 go_wp2_with (go_at_call 285; refine hL.out.mono ?_; rintro e w' ⟨⟨er,s,rfl,hs⟩,hb2⟩; have hs1 : Hid ((b : Int) + s = q) := hs; have hs2 : (b : Int) + s ≤ 8192 := (by omega); have hs3 : 0 ≤ (b : Int) + s := (by omega); clear hs)
 go_ret
 exact ⟨by rw [← hs1.out]; rfl,hb2⟩
end Go.Proofs.YtaphggjakaghjaaGreatDoor
