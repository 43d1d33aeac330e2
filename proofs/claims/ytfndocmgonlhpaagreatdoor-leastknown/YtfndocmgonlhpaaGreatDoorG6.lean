/-
  What is proved here: stops in memory; what line of least answers.
-/
import Derived.Test.YtfndocmgonlhpaaGreatDoorG1
import Derived.Test.YtfndocmgonlhpaaGreatDoorG5
import Derived.Deep.MidRow
namespace Go.Proofs.YtfndocmgonlhpaaGreatDoor
open Go.RowKit Go.Shelf
set_option maxRecDepth 100000
set_option maxHeartbeats 1000000

structure St where
 a : Nat
 n : Nat
 e : Su
 b : Su
 c : Int
 y : Bool
 l : Bool
 t : Int
def stL (x : St) : List Value := [.int .i64 x.a,.int .i64 x.n,.int .i64 x.e.w,.int .i64 x.e.s,.int .i64 x.e.h,.int .i64 x.b.w,.int .i64 x.b.s,.int .i64 x.b.h,.int .i64 x.c,.bool x.y,.bool x.l,.int .i64 x.t]
theorem stL_len (x : St) : (stL x).length = 12 := rfl
theorem stL_one (x : St) : ∀ u ∈ stL x,u.oneCell' = true := by
 intro u hu; simp [stL] at hu; rcases hu with rfl | rfl | rfl | rfl | rfl | rfl | rfl | rfl | rfl | rfl | rfl | rfl <;> rfl
structure StAt (g o : Nat) (x : St) (W : World) : Prop where
 lt : g < W.heap.size
 c : ∀ j u,(stL x)[j]? = some u → W.cell? ⟨g,o + j,none⟩ = some u
theorem StAt.below {n g o : Nat} {x : St} {W W' : World} (h : StAt g o x W) (hb : Below n W W') (hn : g < n) : StAt g o x W' := ⟨Nat.lt_of_lt_of_le h.lt hb.size,fun j u hu => (hb.cell hn).trans (h.c j u hu)⟩
theorem StAt.turns {X : Nat → Prop} {g o : Nat} {x : St} {W W' : World} (h : StAt g o x W) (hb : Turns X W W') (hn : ¬ X g) : StAt g o x W' := ⟨Nat.lt_of_lt_of_le h.lt hb.size,fun j u hu => by
 have e := hb.block g h.lt hn
 have := h.c j u hu
 unfold World.cell? at this ⊢
 simp only [e]
 exact this⟩
section
variable {g o : Nat} {x : St} {W : World}
theorem StAt.c0 (h : StAt g o x W) : W.cell? ⟨g,o,none⟩ = some (.int .i64 x.a) := h.c 0 _ rfl
theorem StAt.c1 (h : StAt g o x W) : W.cell? ⟨g,o + 1,none⟩ = some (.int .i64 x.n) := h.c 1 _ rfl
theorem StAt.c2 (h : StAt g o x W) : W.cell? ⟨g,o + 2,none⟩ = some (.int .i64 x.e.w) := h.c 2 _ rfl
theorem StAt.c3 (h : StAt g o x W) : W.cell? ⟨g,o + 2 + 1,none⟩ = some (.int .i64 x.e.s) := h.c 3 _ rfl
theorem StAt.c4 (h : StAt g o x W) : W.cell? ⟨g,o + 2 + 2,none⟩ = some (.int .i64 x.e.h) := h.c 4 _ rfl
theorem StAt.c5 (h : StAt g o x W) : W.cell? ⟨g,o + 5,none⟩ = some (.int .i64 x.b.w) := h.c 5 _ rfl
theorem StAt.c6 (h : StAt g o x W) : W.cell? ⟨g,o + 5 + 1,none⟩ = some (.int .i64 x.b.s) := h.c 6 _ rfl
theorem StAt.c7 (h : StAt g o x W) : W.cell? ⟨g,o + 5 + 2,none⟩ = some (.int .i64 x.b.h) := h.c 7 _ rfl
theorem StAt.c8 (h : StAt g o x W) : W.cell? ⟨g,o + 8,none⟩ = some (.int .i64 x.c) := h.c 8 _ rfl
theorem StAt.c9 (h : StAt g o x W) : W.cell? ⟨g,o + 9,none⟩ = some (.bool x.y) := h.c 9 _ rfl
theorem StAt.c10 (h : StAt g o x W) : W.cell? ⟨g,o + 10,none⟩ = some (.bool x.l) := h.c 10 _ rfl
theorem StAt.c11 (h : StAt g o x W) : W.cell? ⟨g,o + 11,none⟩ = some (.int .i64 x.t) := h.c 11 _ rfl
end
theorem wrap_i {n : Int} (h1 : -9223372036854775808 ≤ n) (h2 : n ≤ 9223372036854775807) : IntKind.i64.wrap n = n := by
 rw [IntKind.wrap_i64]; omega
def lnS (p q : St) : Su := ⟨q.e.w - p.b.w,q.e.s - p.b.s,q.e.h - p.b.h⟩
structure LnX (ga oa : Nat) (p : St) (gb ob : Nat) (q : St) (T : Nat) (W : World) : Prop where
 p : StAt ga oa p W
 q : StAt gb ob q W
 t : ∃ z : Su,W.heap[T]? = some (.cells (suL z).toArray 89 (0,0))
theorem info89 (p : Su) : (Tryz.prog.info? 89).map (·.size) = some (suL p).toArray.size := by show _ = some 3; kernel_rfl
theorem suL_all (p : Su) : (suL p).toArray.all (·.oneCell') = true := all_oneCell_toArray (suL_one p)
theorem LnX.set {ga oa : Nat} {p : St} {gb ob : Nat} {q : St} {T : Nat} {W : World} (h : LnX ga oa p gb ob q T W) (ha : ga ≠ T) (hb : gb ≠ T) (z : Su) : LnX ga oa p gb ob q T (W.setRow T (suL z).toArray) := by
 have ht := Turns.setRow (X := fun k => k = T) W rfl (suL z).toArray
 obtain ⟨y,hy⟩ := h.t
 exact ⟨h.p.turns ht ha,h.q.turns ht hb,z,setRow_heap _ _ _ _ _ _ hy⟩
def fr69 (v0 v1 v2 v3 v4 v5 v6 v7 v8 v9 xa xb xc xd xe xf xg xh xi xj xk xl xm xn xo xp xq xr xt xu xv xw xx xy xz xA xB xC xD : Value) : Act := { tmps := #[v0,v1,v2,v3,v4,v5,v6,v7,v8,v9,xa,xb,xc,xd,xe,xf,xg,xh,xi,xj,xk,xl,xm,xn,xo,xp,xq,xr,xt,xu,xv,xw,xx,xy,xz,xA,xB,xC,xD],defers := [] }
def ops69_1_0 (ps : String) : Oper := ⟨some 5,.move (.tmp 1),96,ps,#[],none⟩
def ops69_1_1 (ps : String) : Oper := ⟨some 6,.nilCheck (.tmp 5),0,ps,#[⟨0,.data⟩],none⟩
def ops69_1_2 (ps : String) : Oper := ⟨some 7,.fieldAddr 91 (.tmp 6) 2,0,ps,#[⟨1,.data⟩],none⟩
def ops69_1_3 (ps : String) : Oper := ⟨some 8,.fieldAddr 89 (.tmp 7) 0,0,ps,#[⟨2,.data⟩],none⟩
def ops69_1_4 (ps : String) : Oper := ⟨some 9,.load 3 (.tmp 8),3,ps,#[⟨3,.data⟩],none⟩
def ops69_1_5 (ps : String) : Oper := ⟨some 10,.move (.tmp 0),96,ps,#[],none⟩
def ops69_1_6 (ps : String) : Oper := ⟨some 11,.nilCheck (.tmp 10),0,ps,#[⟨5,.data⟩],none⟩
def ops69_1_7 (ps : String) : Oper := ⟨some 12,.fieldAddr 91 (.tmp 11) 3,0,ps,#[⟨6,.data⟩],none⟩
def ops69_1_8 (ps : String) : Oper := ⟨some 13,.fieldAddr 89 (.tmp 12) 0,0,ps,#[⟨7,.data⟩],none⟩
def ops69_1_9 (ps : String) : Oper := ⟨some 14,.load 3 (.tmp 13),3,ps,#[⟨8,.data⟩],none⟩
def ops69_1_10 (ps : String) : Oper := ⟨some 15,.binOp .sub 3 (.tmp 9) (.tmp 14) 3,3,ps,#[⟨4,.data⟩,⟨9,.data⟩],none⟩
def ops69_1_11 (ps : String) : Oper := ⟨some 16,.move (.tmp 1),96,ps,#[],none⟩
def ops69_1_12 (ps : String) : Oper := ⟨some 17,.nilCheck (.tmp 16),0,ps,#[⟨11,.data⟩],none⟩
def ops69_1_13 (ps : String) : Oper := ⟨some 18,.fieldAddr 91 (.tmp 17) 2,0,ps,#[⟨12,.data⟩],none⟩
def ops69_1_14 (ps : String) : Oper := ⟨some 19,.fieldAddr 89 (.tmp 18) 1,0,ps,#[⟨13,.data⟩],none⟩
def ops69_1_15 (ps : String) : Oper := ⟨some 20,.load 3 (.tmp 19),3,ps,#[⟨14,.data⟩],none⟩
def ops69_1_16 (ps : String) : Oper := ⟨some 21,.move (.tmp 0),96,ps,#[],none⟩
def ops69_1_17 (ps : String) : Oper := ⟨some 22,.nilCheck (.tmp 21),0,ps,#[⟨16,.data⟩],none⟩
def ops69_1_18 (ps : String) : Oper := ⟨some 23,.fieldAddr 91 (.tmp 22) 3,0,ps,#[⟨17,.data⟩],none⟩
def ops69_1_19 (ps : String) : Oper := ⟨some 24,.fieldAddr 89 (.tmp 23) 1,0,ps,#[⟨18,.data⟩],none⟩
def ops69_1_20 (ps : String) : Oper := ⟨some 25,.load 3 (.tmp 24),3,ps,#[⟨19,.data⟩],none⟩
def ops69_1_21 (ps : String) : Oper := ⟨some 26,.binOp .sub 3 (.tmp 20) (.tmp 25) 3,3,ps,#[⟨15,.data⟩,⟨20,.data⟩],none⟩
def ops69_1_22 (ps : String) : Oper := ⟨some 27,.move (.tmp 1),96,ps,#[],none⟩
def ops69_1_23 (ps : String) : Oper := ⟨some 28,.nilCheck (.tmp 27),0,ps,#[⟨22,.data⟩],none⟩
def ops69_1_24 (ps : String) : Oper := ⟨some 29,.fieldAddr 91 (.tmp 28) 2,0,ps,#[⟨23,.data⟩],none⟩
def ops69_1_25 (ps : String) : Oper := ⟨some 30,.fieldAddr 89 (.tmp 29) 2,0,ps,#[⟨24,.data⟩],none⟩
def ops69_1_26 (ps : String) : Oper := ⟨some 31,.load 3 (.tmp 30),3,ps,#[⟨25,.data⟩],none⟩
def ops69_1_27 (ps : String) : Oper := ⟨some 32,.move (.tmp 0),96,ps,#[],none⟩
def ops69_1_28 (ps : String) : Oper := ⟨some 33,.nilCheck (.tmp 32),0,ps,#[⟨27,.data⟩],none⟩
def ops69_1_29 (ps : String) : Oper := ⟨some 34,.fieldAddr 91 (.tmp 33) 3,0,ps,#[⟨28,.data⟩],none⟩
def ops69_1_30 (ps : String) : Oper := ⟨some 35,.fieldAddr 89 (.tmp 34) 2,0,ps,#[⟨29,.data⟩],none⟩
def ops69_1_31 (ps : String) : Oper := ⟨some 36,.load 3 (.tmp 35),3,ps,#[⟨30,.data⟩],none⟩
def ops69_1_32 (ps : String) : Oper := ⟨some 37,.binOp .sub 3 (.tmp 31) (.tmp 36) 3,3,ps,#[⟨26,.data⟩,⟨31,.data⟩],none⟩
def ops69_1_33 (ps : String) : Oper := ⟨some 38,.build 89 #[(0,.tmp 15),(1,.tmp 26),(2,.tmp 37)],89,ps,#[⟨10,.data⟩,⟨21,.data⟩,⟨32,.data⟩],none⟩
def ops69_1_34 (ps : String) : Oper := ⟨none,.store 89 (.tmp 4) (.tmp 38),0,ps,#[⟨33,.data⟩,⟨0,.phase⟩,⟨1,.phase⟩,⟨2,.phase⟩,⟨3,.phase⟩,⟨4,.phase⟩,⟨5,.phase⟩,⟨6,.phase⟩,⟨7,.phase⟩,⟨8,.phase⟩,⟨9,.phase⟩,⟨10,.phase⟩,⟨11,.phase⟩,⟨12,.phase⟩,⟨13,.phase⟩,⟨14,.phase⟩,⟨15,.phase⟩,⟨16,.phase⟩,⟨17,.phase⟩,⟨18,.phase⟩,⟨19,.phase⟩,⟨20,.phase⟩,⟨21,.phase⟩,⟨22,.phase⟩,⟨23,.phase⟩,⟨24,.phase⟩,⟨25,.phase⟩,⟨26,.phase⟩,⟨27,.phase⟩,⟨28,.phase⟩,⟨29,.phase⟩,⟨30,.phase⟩,⟨31,.phase⟩,⟨32,.phase⟩,⟨33,.phase⟩],none⟩
def ops69_1 (ps : String) : Array Oper := #[ops69_1_0 ps,ops69_1_1 ps,ops69_1_2 ps,ops69_1_3 ps,ops69_1_4 ps,ops69_1_5 ps,ops69_1_6 ps,ops69_1_7 ps,ops69_1_8 ps,ops69_1_9 ps,ops69_1_10 ps,ops69_1_11 ps,ops69_1_12 ps,ops69_1_13 ps,ops69_1_14 ps,ops69_1_15 ps,ops69_1_16 ps,ops69_1_17 ps,ops69_1_18 ps,ops69_1_19 ps,ops69_1_20 ps,ops69_1_21 ps,ops69_1_22 ps,ops69_1_23 ps,ops69_1_24 ps,ops69_1_25 ps,ops69_1_26 ps,ops69_1_27 ps,ops69_1_28 ps,ops69_1_29 ps,ops69_1_30 ps,ops69_1_31 ps,ops69_1_32 ps,ops69_1_33 ps,ops69_1_34 ps]

theorem line_r1 (Q : Exit → Act → World → Prop) (hQ : ∀ c x (n : Nat) v w,Q (.panic c) (x.put (some n) v) w → Q (.panic c) x w) (id : Nat) (ps : String) {v2 v3 v5 v6 v7 v8 v9 xa xb xc xd xe xf xg xh xi xj xk xl xm xn xo xp xq xr xt xu xv xw xx xy xz xA xB xC xD : Value} (ga oa : Nat) (p : St) (gb ob : Nat) (q : St) (T : Nat) (w : World) (hS : LnX ga oa p gb ob q T (World.drew w))
  (ha : ga ≠ T) (hb : gb ≠ T) (k1 : -17179869184 ≤ q.e.w) (k2 : q.e.w ≤ 17179869184) (k3 : -17179869184 ≤ p.b.w) (k4 : p.b.w ≤ 17179869184) (k5 : 0 ≤ q.e.s) (k6 : q.e.s ≤ 67108864) (k7 : 0 ≤ p.b.s) (k8 : p.b.s ≤ 67108864) (k9 : 0 ≤ q.e.h) (k10 : q.e.h ≤ 67108864) (k11 : 0 ≤ p.b.h) (k12 : p.b.h ≤ 67108864)
  (hq : Q .normal (fr69 (.pointer (some ⟨ga,oa,none⟩)) (.pointer (some ⟨gb,ob,none⟩)) v2 v3 (.pointer (some ⟨T,0,none⟩)) (.pointer (some ⟨gb,ob,none⟩)) (.pointer (some ⟨gb,ob,none⟩)) (.pointer (some ⟨gb,ob + 2,none⟩)) (.pointer (some ⟨gb,ob + 2,none⟩)) (.int .i64 q.e.w) (.pointer (some ⟨ga,oa,none⟩)) (.pointer (some ⟨ga,oa,none⟩)) (.pointer (some ⟨ga,oa + 5,none⟩)) (.pointer (some ⟨ga,oa + 5,none⟩)) (.int .i64 p.b.w) (.int .i64 (q.e.w - p.b.w)) (.pointer (some ⟨gb,ob,none⟩)) (.pointer (some ⟨gb,ob,none⟩)) (.pointer (some ⟨gb,ob + 2,none⟩)) (.pointer (some ⟨gb,ob + 2 + 1,none⟩)) (.int .i64 q.e.s) (.pointer (some ⟨ga,oa,none⟩)) (.pointer (some ⟨ga,oa,none⟩)) (.pointer (some ⟨ga,oa + 5,none⟩)) (.pointer (some ⟨ga,oa + 5 + 1,none⟩)) (.int .i64 p.b.s) (.int .i64 (q.e.s - p.b.s)) (.pointer (some ⟨gb,ob,none⟩)) (.pointer (some ⟨gb,ob,none⟩)) (.pointer (some ⟨gb,ob + 2,none⟩)) (.pointer (some ⟨gb,ob + 2 + 2,none⟩)) (.int .i64 q.e.h) (.pointer (some ⟨ga,oa,none⟩)) (.pointer (some ⟨ga,oa,none⟩)) (.pointer (some ⟨ga,oa + 5,none⟩)) (.pointer (some ⟨ga,oa + 5 + 2,none⟩)) (.int .i64 p.b.h) (.int .i64 (q.e.h - p.b.h)) (.agg (suL (lnS p q)).toArray)) ((World.drew w).setRow T (suL (lnS p q)).toArray)) :
  (Code.region id (ops69_1 ps) true).wp Tryz.prog Q (fr69 (.pointer (some ⟨ga,oa,none⟩)) (.pointer (some ⟨gb,ob,none⟩)) v2 v3 (.pointer (some ⟨T,0,none⟩)) v5 v6 v7 v8 v9 xa xb xc xd xe xf xg xh xi xj xk xl xm xn xo xp xq xr xt xu xv xw xx xy xz xA xB xC xD) w := by
 refine wp_region_held (S := LnX ga oa p gb ob q T) (by kernel_rfl) ?_
 change wpAnyH _ _ _ _ _ 35 _ _ (World.drew w)
 refine take_r 0 ⟨some 5,.move (.tmp 1),96,ps,#[],none⟩ (.pointer (some ⟨gb,ob,none⟩)) hQ (fun w _ => by kernel_rfl) hS ?_
 refine take_k 1 (ops69_1_1 ps) (.pointer (some ⟨gb,ob,none⟩)) (fr69 (.pointer (some ⟨ga,oa,none⟩)) (.pointer (some ⟨gb,ob,none⟩)) v2 v3 (.pointer (some ⟨T,0,none⟩)) (.pointer (some ⟨gb,ob,none⟩)) (.pointer (some ⟨gb,ob,none⟩)) v7 v8 v9 xa xb xc xd xe xf xg xh xi xj xk xl xm xn xo xp xq xr xt xu xv xw xx xy xz xA xB xC xD) hQ (fun w hS => by unfold fr69 ops69_1_1; go_simp) hS ?_
 refine take_r 2 ⟨some 7,.fieldAddr 91 (.tmp 6) 2,0,ps,#[⟨1,.data⟩],none⟩ (.pointer (some ⟨gb,ob + 2,none⟩)) hQ (fun w hS => by unfold fr69; go_simp) hS ?_
 refine take_k 3 (ops69_1_3 ps) (.pointer (some ⟨gb,ob + 2,none⟩)) (fr69 (.pointer (some ⟨ga,oa,none⟩)) (.pointer (some ⟨gb,ob,none⟩)) v2 v3 (.pointer (some ⟨T,0,none⟩)) (.pointer (some ⟨gb,ob,none⟩)) (.pointer (some ⟨gb,ob,none⟩)) (.pointer (some ⟨gb,ob + 2,none⟩)) (.pointer (some ⟨gb,ob + 2,none⟩)) v9 xa xb xc xd xe xf xg xh xi xj xk xl xm xn xo xp xq xr xt xu xv xw xx xy xz xA xB xC xD) hQ (fun w hS => by unfold fr69 ops69_1_3; go_simp) hS ?_
 refine take_r 4 ⟨some 9,.load 3 (.tmp 8),3,ps,#[⟨3,.data⟩],none⟩ (.int .i64 q.e.w) hQ (fun w hS => by have e := hS.q.c2; unfold fr69; go_simp) hS ?_
 refine take_k 5 (ops69_1_5 ps) (.pointer (some ⟨ga,oa,none⟩)) (fr69 (.pointer (some ⟨ga,oa,none⟩)) (.pointer (some ⟨gb,ob,none⟩)) v2 v3 (.pointer (some ⟨T,0,none⟩)) (.pointer (some ⟨gb,ob,none⟩)) (.pointer (some ⟨gb,ob,none⟩)) (.pointer (some ⟨gb,ob + 2,none⟩)) (.pointer (some ⟨gb,ob + 2,none⟩)) (.int .i64 q.e.w) (.pointer (some ⟨ga,oa,none⟩)) xb xc xd xe xf xg xh xi xj xk xl xm xn xo xp xq xr xt xu xv xw xx xy xz xA xB xC xD) hQ (fun w _ => by kernel_rfl) hS ?_
 refine take_r 6 ⟨some 11,.nilCheck (.tmp 10),0,ps,#[⟨5,.data⟩],none⟩ (.pointer (some ⟨ga,oa,none⟩)) hQ (fun w hS => by unfold fr69; go_simp) hS ?_
 refine take_k 7 (ops69_1_7 ps) (.pointer (some ⟨ga,oa + 5,none⟩)) (fr69 (.pointer (some ⟨ga,oa,none⟩)) (.pointer (some ⟨gb,ob,none⟩)) v2 v3 (.pointer (some ⟨T,0,none⟩)) (.pointer (some ⟨gb,ob,none⟩)) (.pointer (some ⟨gb,ob,none⟩)) (.pointer (some ⟨gb,ob + 2,none⟩)) (.pointer (some ⟨gb,ob + 2,none⟩)) (.int .i64 q.e.w) (.pointer (some ⟨ga,oa,none⟩)) (.pointer (some ⟨ga,oa,none⟩)) (.pointer (some ⟨ga,oa + 5,none⟩)) xd xe xf xg xh xi xj xk xl xm xn xo xp xq xr xt xu xv xw xx xy xz xA xB xC xD) hQ (fun w hS => by unfold fr69 ops69_1_7; go_simp) hS ?_
 refine take_r 8 ⟨some 13,.fieldAddr 89 (.tmp 12) 0,0,ps,#[⟨7,.data⟩],none⟩ (.pointer (some ⟨ga,oa + 5,none⟩)) hQ (fun w hS => by unfold fr69; go_simp) hS ?_
 refine take_k 9 (ops69_1_9 ps) (.int .i64 p.b.w) (fr69 (.pointer (some ⟨ga,oa,none⟩)) (.pointer (some ⟨gb,ob,none⟩)) v2 v3 (.pointer (some ⟨T,0,none⟩)) (.pointer (some ⟨gb,ob,none⟩)) (.pointer (some ⟨gb,ob,none⟩)) (.pointer (some ⟨gb,ob + 2,none⟩)) (.pointer (some ⟨gb,ob + 2,none⟩)) (.int .i64 q.e.w) (.pointer (some ⟨ga,oa,none⟩)) (.pointer (some ⟨ga,oa,none⟩)) (.pointer (some ⟨ga,oa + 5,none⟩)) (.pointer (some ⟨ga,oa + 5,none⟩)) (.int .i64 p.b.w) xf xg xh xi xj xk xl xm xn xo xp xq xr xt xu xv xw xx xy xz xA xB xC xD) hQ (fun w hS => by have e := hS.p.c5; unfold fr69 ops69_1_9; go_simp) hS ?_
 refine take_r 10 ⟨some 15,.binOp .sub 3 (.tmp 9) (.tmp 14) 3,3,ps,#[⟨4,.data⟩,⟨9,.data⟩],none⟩ (.int .i64 (q.e.w - p.b.w)) hQ (fun w hS => by unfold fr69; go_simp; exact wrap_i (by omega) (by omega)) hS ?_
 refine take_k 11 (ops69_1_11 ps) (.pointer (some ⟨gb,ob,none⟩)) (fr69 (.pointer (some ⟨ga,oa,none⟩)) (.pointer (some ⟨gb,ob,none⟩)) v2 v3 (.pointer (some ⟨T,0,none⟩)) (.pointer (some ⟨gb,ob,none⟩)) (.pointer (some ⟨gb,ob,none⟩)) (.pointer (some ⟨gb,ob + 2,none⟩)) (.pointer (some ⟨gb,ob + 2,none⟩)) (.int .i64 q.e.w) (.pointer (some ⟨ga,oa,none⟩)) (.pointer (some ⟨ga,oa,none⟩)) (.pointer (some ⟨ga,oa + 5,none⟩)) (.pointer (some ⟨ga,oa + 5,none⟩)) (.int .i64 p.b.w) (.int .i64 (q.e.w - p.b.w)) (.pointer (some ⟨gb,ob,none⟩)) xh xi xj xk xl xm xn xo xp xq xr xt xu xv xw xx xy xz xA xB xC xD) hQ (fun w _ => by kernel_rfl) hS ?_
 refine take_r 12 ⟨some 17,.nilCheck (.tmp 16),0,ps,#[⟨11,.data⟩],none⟩ (.pointer (some ⟨gb,ob,none⟩)) hQ (fun w hS => by unfold fr69; go_simp) hS ?_
 refine take_k 13 (ops69_1_13 ps) (.pointer (some ⟨gb,ob + 2,none⟩)) (fr69 (.pointer (some ⟨ga,oa,none⟩)) (.pointer (some ⟨gb,ob,none⟩)) v2 v3 (.pointer (some ⟨T,0,none⟩)) (.pointer (some ⟨gb,ob,none⟩)) (.pointer (some ⟨gb,ob,none⟩)) (.pointer (some ⟨gb,ob + 2,none⟩)) (.pointer (some ⟨gb,ob + 2,none⟩)) (.int .i64 q.e.w) (.pointer (some ⟨ga,oa,none⟩)) (.pointer (some ⟨ga,oa,none⟩)) (.pointer (some ⟨ga,oa + 5,none⟩)) (.pointer (some ⟨ga,oa + 5,none⟩)) (.int .i64 p.b.w) (.int .i64 (q.e.w - p.b.w)) (.pointer (some ⟨gb,ob,none⟩)) (.pointer (some ⟨gb,ob,none⟩)) (.pointer (some ⟨gb,ob + 2,none⟩)) xj xk xl xm xn xo xp xq xr xt xu xv xw xx xy xz xA xB xC xD) hQ (fun w hS => by unfold fr69 ops69_1_13; go_simp) hS ?_
 refine take_r 14 ⟨some 19,.fieldAddr 89 (.tmp 18) 1,0,ps,#[⟨13,.data⟩],none⟩ (.pointer (some ⟨gb,ob + 2 + 1,none⟩)) hQ (fun w hS => by unfold fr69; go_simp) hS ?_
 refine take_k 15 (ops69_1_15 ps) (.int .i64 q.e.s) (fr69 (.pointer (some ⟨ga,oa,none⟩)) (.pointer (some ⟨gb,ob,none⟩)) v2 v3 (.pointer (some ⟨T,0,none⟩)) (.pointer (some ⟨gb,ob,none⟩)) (.pointer (some ⟨gb,ob,none⟩)) (.pointer (some ⟨gb,ob + 2,none⟩)) (.pointer (some ⟨gb,ob + 2,none⟩)) (.int .i64 q.e.w) (.pointer (some ⟨ga,oa,none⟩)) (.pointer (some ⟨ga,oa,none⟩)) (.pointer (some ⟨ga,oa + 5,none⟩)) (.pointer (some ⟨ga,oa + 5,none⟩)) (.int .i64 p.b.w) (.int .i64 (q.e.w - p.b.w)) (.pointer (some ⟨gb,ob,none⟩)) (.pointer (some ⟨gb,ob,none⟩)) (.pointer (some ⟨gb,ob + 2,none⟩)) (.pointer (some ⟨gb,ob + 2 + 1,none⟩)) (.int .i64 q.e.s) xl xm xn xo xp xq xr xt xu xv xw xx xy xz xA xB xC xD) hQ (fun w hS => by have e := hS.q.c3; unfold fr69 ops69_1_15; go_simp) hS ?_
 refine take_r 16 ⟨some 21,.move (.tmp 0),96,ps,#[],none⟩ (.pointer (some ⟨ga,oa,none⟩)) hQ (fun w _ => by kernel_rfl) hS ?_
 refine take_k 17 (ops69_1_17 ps) (.pointer (some ⟨ga,oa,none⟩)) (fr69 (.pointer (some ⟨ga,oa,none⟩)) (.pointer (some ⟨gb,ob,none⟩)) v2 v3 (.pointer (some ⟨T,0,none⟩)) (.pointer (some ⟨gb,ob,none⟩)) (.pointer (some ⟨gb,ob,none⟩)) (.pointer (some ⟨gb,ob + 2,none⟩)) (.pointer (some ⟨gb,ob + 2,none⟩)) (.int .i64 q.e.w) (.pointer (some ⟨ga,oa,none⟩)) (.pointer (some ⟨ga,oa,none⟩)) (.pointer (some ⟨ga,oa + 5,none⟩)) (.pointer (some ⟨ga,oa + 5,none⟩)) (.int .i64 p.b.w) (.int .i64 (q.e.w - p.b.w)) (.pointer (some ⟨gb,ob,none⟩)) (.pointer (some ⟨gb,ob,none⟩)) (.pointer (some ⟨gb,ob + 2,none⟩)) (.pointer (some ⟨gb,ob + 2 + 1,none⟩)) (.int .i64 q.e.s) (.pointer (some ⟨ga,oa,none⟩)) (.pointer (some ⟨ga,oa,none⟩)) xn xo xp xq xr xt xu xv xw xx xy xz xA xB xC xD) hQ (fun w hS => by unfold fr69 ops69_1_17; go_simp) hS ?_
 refine take_r 18 ⟨some 23,.fieldAddr 91 (.tmp 22) 3,0,ps,#[⟨17,.data⟩],none⟩ (.pointer (some ⟨ga,oa + 5,none⟩)) hQ (fun w hS => by unfold fr69; go_simp) hS ?_
 refine take_k 19 (ops69_1_19 ps) (.pointer (some ⟨ga,oa + 5 + 1,none⟩)) (fr69 (.pointer (some ⟨ga,oa,none⟩)) (.pointer (some ⟨gb,ob,none⟩)) v2 v3 (.pointer (some ⟨T,0,none⟩)) (.pointer (some ⟨gb,ob,none⟩)) (.pointer (some ⟨gb,ob,none⟩)) (.pointer (some ⟨gb,ob + 2,none⟩)) (.pointer (some ⟨gb,ob + 2,none⟩)) (.int .i64 q.e.w) (.pointer (some ⟨ga,oa,none⟩)) (.pointer (some ⟨ga,oa,none⟩)) (.pointer (some ⟨ga,oa + 5,none⟩)) (.pointer (some ⟨ga,oa + 5,none⟩)) (.int .i64 p.b.w) (.int .i64 (q.e.w - p.b.w)) (.pointer (some ⟨gb,ob,none⟩)) (.pointer (some ⟨gb,ob,none⟩)) (.pointer (some ⟨gb,ob + 2,none⟩)) (.pointer (some ⟨gb,ob + 2 + 1,none⟩)) (.int .i64 q.e.s) (.pointer (some ⟨ga,oa,none⟩)) (.pointer (some ⟨ga,oa,none⟩)) (.pointer (some ⟨ga,oa + 5,none⟩)) (.pointer (some ⟨ga,oa + 5 + 1,none⟩)) xp xq xr xt xu xv xw xx xy xz xA xB xC xD) hQ (fun w hS => by unfold fr69 ops69_1_19; go_simp) hS ?_
 refine take_r 20 ⟨some 25,.load 3 (.tmp 24),3,ps,#[⟨19,.data⟩],none⟩ (.int .i64 p.b.s) hQ (fun w hS => by have e := hS.p.c6; unfold fr69; go_simp) hS ?_
 refine take_k 21 (ops69_1_21 ps) (.int .i64 (q.e.s - p.b.s)) (fr69 (.pointer (some ⟨ga,oa,none⟩)) (.pointer (some ⟨gb,ob,none⟩)) v2 v3 (.pointer (some ⟨T,0,none⟩)) (.pointer (some ⟨gb,ob,none⟩)) (.pointer (some ⟨gb,ob,none⟩)) (.pointer (some ⟨gb,ob + 2,none⟩)) (.pointer (some ⟨gb,ob + 2,none⟩)) (.int .i64 q.e.w) (.pointer (some ⟨ga,oa,none⟩)) (.pointer (some ⟨ga,oa,none⟩)) (.pointer (some ⟨ga,oa + 5,none⟩)) (.pointer (some ⟨ga,oa + 5,none⟩)) (.int .i64 p.b.w) (.int .i64 (q.e.w - p.b.w)) (.pointer (some ⟨gb,ob,none⟩)) (.pointer (some ⟨gb,ob,none⟩)) (.pointer (some ⟨gb,ob + 2,none⟩)) (.pointer (some ⟨gb,ob + 2 + 1,none⟩)) (.int .i64 q.e.s) (.pointer (some ⟨ga,oa,none⟩)) (.pointer (some ⟨ga,oa,none⟩)) (.pointer (some ⟨ga,oa + 5,none⟩)) (.pointer (some ⟨ga,oa + 5 + 1,none⟩)) (.int .i64 p.b.s) (.int .i64 (q.e.s - p.b.s)) xr xt xu xv xw xx xy xz xA xB xC xD) hQ (fun w hS => by unfold fr69 ops69_1_21; go_simp; exact wrap_i (by omega) (by omega)) hS ?_
 refine take_r 22 ⟨some 27,.move (.tmp 1),96,ps,#[],none⟩ (.pointer (some ⟨gb,ob,none⟩)) hQ (fun w _ => by kernel_rfl) hS ?_
 refine take_k 23 (ops69_1_23 ps) (.pointer (some ⟨gb,ob,none⟩)) (fr69 (.pointer (some ⟨ga,oa,none⟩)) (.pointer (some ⟨gb,ob,none⟩)) v2 v3 (.pointer (some ⟨T,0,none⟩)) (.pointer (some ⟨gb,ob,none⟩)) (.pointer (some ⟨gb,ob,none⟩)) (.pointer (some ⟨gb,ob + 2,none⟩)) (.pointer (some ⟨gb,ob + 2,none⟩)) (.int .i64 q.e.w) (.pointer (some ⟨ga,oa,none⟩)) (.pointer (some ⟨ga,oa,none⟩)) (.pointer (some ⟨ga,oa + 5,none⟩)) (.pointer (some ⟨ga,oa + 5,none⟩)) (.int .i64 p.b.w) (.int .i64 (q.e.w - p.b.w)) (.pointer (some ⟨gb,ob,none⟩)) (.pointer (some ⟨gb,ob,none⟩)) (.pointer (some ⟨gb,ob + 2,none⟩)) (.pointer (some ⟨gb,ob + 2 + 1,none⟩)) (.int .i64 q.e.s) (.pointer (some ⟨ga,oa,none⟩)) (.pointer (some ⟨ga,oa,none⟩)) (.pointer (some ⟨ga,oa + 5,none⟩)) (.pointer (some ⟨ga,oa + 5 + 1,none⟩)) (.int .i64 p.b.s) (.int .i64 (q.e.s - p.b.s)) (.pointer (some ⟨gb,ob,none⟩)) (.pointer (some ⟨gb,ob,none⟩)) xu xv xw xx xy xz xA xB xC xD) hQ (fun w hS => by unfold fr69 ops69_1_23; go_simp) hS ?_
 refine take_r 24 ⟨some 29,.fieldAddr 91 (.tmp 28) 2,0,ps,#[⟨23,.data⟩],none⟩ (.pointer (some ⟨gb,ob + 2,none⟩)) hQ (fun w hS => by unfold fr69; go_simp) hS ?_
 refine take_k 25 (ops69_1_25 ps) (.pointer (some ⟨gb,ob + 2 + 2,none⟩)) (fr69 (.pointer (some ⟨ga,oa,none⟩)) (.pointer (some ⟨gb,ob,none⟩)) v2 v3 (.pointer (some ⟨T,0,none⟩)) (.pointer (some ⟨gb,ob,none⟩)) (.pointer (some ⟨gb,ob,none⟩)) (.pointer (some ⟨gb,ob + 2,none⟩)) (.pointer (some ⟨gb,ob + 2,none⟩)) (.int .i64 q.e.w) (.pointer (some ⟨ga,oa,none⟩)) (.pointer (some ⟨ga,oa,none⟩)) (.pointer (some ⟨ga,oa + 5,none⟩)) (.pointer (some ⟨ga,oa + 5,none⟩)) (.int .i64 p.b.w) (.int .i64 (q.e.w - p.b.w)) (.pointer (some ⟨gb,ob,none⟩)) (.pointer (some ⟨gb,ob,none⟩)) (.pointer (some ⟨gb,ob + 2,none⟩)) (.pointer (some ⟨gb,ob + 2 + 1,none⟩)) (.int .i64 q.e.s) (.pointer (some ⟨ga,oa,none⟩)) (.pointer (some ⟨ga,oa,none⟩)) (.pointer (some ⟨ga,oa + 5,none⟩)) (.pointer (some ⟨ga,oa + 5 + 1,none⟩)) (.int .i64 p.b.s) (.int .i64 (q.e.s - p.b.s)) (.pointer (some ⟨gb,ob,none⟩)) (.pointer (some ⟨gb,ob,none⟩)) (.pointer (some ⟨gb,ob + 2,none⟩)) (.pointer (some ⟨gb,ob + 2 + 2,none⟩)) xw xx xy xz xA xB xC xD) hQ (fun w hS => by unfold fr69 ops69_1_25; go_simp) hS ?_
 refine take_r 26 ⟨some 31,.load 3 (.tmp 30),3,ps,#[⟨25,.data⟩],none⟩ (.int .i64 q.e.h) hQ (fun w hS => by have e := hS.q.c4; unfold fr69; go_simp) hS ?_
 refine take_k 27 (ops69_1_27 ps) (.pointer (some ⟨ga,oa,none⟩)) (fr69 (.pointer (some ⟨ga,oa,none⟩)) (.pointer (some ⟨gb,ob,none⟩)) v2 v3 (.pointer (some ⟨T,0,none⟩)) (.pointer (some ⟨gb,ob,none⟩)) (.pointer (some ⟨gb,ob,none⟩)) (.pointer (some ⟨gb,ob + 2,none⟩)) (.pointer (some ⟨gb,ob + 2,none⟩)) (.int .i64 q.e.w) (.pointer (some ⟨ga,oa,none⟩)) (.pointer (some ⟨ga,oa,none⟩)) (.pointer (some ⟨ga,oa + 5,none⟩)) (.pointer (some ⟨ga,oa + 5,none⟩)) (.int .i64 p.b.w) (.int .i64 (q.e.w - p.b.w)) (.pointer (some ⟨gb,ob,none⟩)) (.pointer (some ⟨gb,ob,none⟩)) (.pointer (some ⟨gb,ob + 2,none⟩)) (.pointer (some ⟨gb,ob + 2 + 1,none⟩)) (.int .i64 q.e.s) (.pointer (some ⟨ga,oa,none⟩)) (.pointer (some ⟨ga,oa,none⟩)) (.pointer (some ⟨ga,oa + 5,none⟩)) (.pointer (some ⟨ga,oa + 5 + 1,none⟩)) (.int .i64 p.b.s) (.int .i64 (q.e.s - p.b.s)) (.pointer (some ⟨gb,ob,none⟩)) (.pointer (some ⟨gb,ob,none⟩)) (.pointer (some ⟨gb,ob + 2,none⟩)) (.pointer (some ⟨gb,ob + 2 + 2,none⟩)) (.int .i64 q.e.h) (.pointer (some ⟨ga,oa,none⟩)) xy xz xA xB xC xD) hQ (fun w _ => by kernel_rfl) hS ?_
 refine take_r 28 ⟨some 33,.nilCheck (.tmp 32),0,ps,#[⟨27,.data⟩],none⟩ (.pointer (some ⟨ga,oa,none⟩)) hQ (fun w hS => by unfold fr69; go_simp) hS ?_
 refine take_k 29 (ops69_1_29 ps) (.pointer (some ⟨ga,oa + 5,none⟩)) (fr69 (.pointer (some ⟨ga,oa,none⟩)) (.pointer (some ⟨gb,ob,none⟩)) v2 v3 (.pointer (some ⟨T,0,none⟩)) (.pointer (some ⟨gb,ob,none⟩)) (.pointer (some ⟨gb,ob,none⟩)) (.pointer (some ⟨gb,ob + 2,none⟩)) (.pointer (some ⟨gb,ob + 2,none⟩)) (.int .i64 q.e.w) (.pointer (some ⟨ga,oa,none⟩)) (.pointer (some ⟨ga,oa,none⟩)) (.pointer (some ⟨ga,oa + 5,none⟩)) (.pointer (some ⟨ga,oa + 5,none⟩)) (.int .i64 p.b.w) (.int .i64 (q.e.w - p.b.w)) (.pointer (some ⟨gb,ob,none⟩)) (.pointer (some ⟨gb,ob,none⟩)) (.pointer (some ⟨gb,ob + 2,none⟩)) (.pointer (some ⟨gb,ob + 2 + 1,none⟩)) (.int .i64 q.e.s) (.pointer (some ⟨ga,oa,none⟩)) (.pointer (some ⟨ga,oa,none⟩)) (.pointer (some ⟨ga,oa + 5,none⟩)) (.pointer (some ⟨ga,oa + 5 + 1,none⟩)) (.int .i64 p.b.s) (.int .i64 (q.e.s - p.b.s)) (.pointer (some ⟨gb,ob,none⟩)) (.pointer (some ⟨gb,ob,none⟩)) (.pointer (some ⟨gb,ob + 2,none⟩)) (.pointer (some ⟨gb,ob + 2 + 2,none⟩)) (.int .i64 q.e.h) (.pointer (some ⟨ga,oa,none⟩)) (.pointer (some ⟨ga,oa,none⟩)) (.pointer (some ⟨ga,oa + 5,none⟩)) xA xB xC xD) hQ (fun w hS => by unfold fr69 ops69_1_29; go_simp) hS ?_
 refine take_r 30 ⟨some 35,.fieldAddr 89 (.tmp 34) 2,0,ps,#[⟨29,.data⟩],none⟩ (.pointer (some ⟨ga,oa + 5 + 2,none⟩)) hQ (fun w hS => by unfold fr69; go_simp) hS ?_
 refine take_k 31 (ops69_1_31 ps) (.int .i64 p.b.h) (fr69 (.pointer (some ⟨ga,oa,none⟩)) (.pointer (some ⟨gb,ob,none⟩)) v2 v3 (.pointer (some ⟨T,0,none⟩)) (.pointer (some ⟨gb,ob,none⟩)) (.pointer (some ⟨gb,ob,none⟩)) (.pointer (some ⟨gb,ob + 2,none⟩)) (.pointer (some ⟨gb,ob + 2,none⟩)) (.int .i64 q.e.w) (.pointer (some ⟨ga,oa,none⟩)) (.pointer (some ⟨ga,oa,none⟩)) (.pointer (some ⟨ga,oa + 5,none⟩)) (.pointer (some ⟨ga,oa + 5,none⟩)) (.int .i64 p.b.w) (.int .i64 (q.e.w - p.b.w)) (.pointer (some ⟨gb,ob,none⟩)) (.pointer (some ⟨gb,ob,none⟩)) (.pointer (some ⟨gb,ob + 2,none⟩)) (.pointer (some ⟨gb,ob + 2 + 1,none⟩)) (.int .i64 q.e.s) (.pointer (some ⟨ga,oa,none⟩)) (.pointer (some ⟨ga,oa,none⟩)) (.pointer (some ⟨ga,oa + 5,none⟩)) (.pointer (some ⟨ga,oa + 5 + 1,none⟩)) (.int .i64 p.b.s) (.int .i64 (q.e.s - p.b.s)) (.pointer (some ⟨gb,ob,none⟩)) (.pointer (some ⟨gb,ob,none⟩)) (.pointer (some ⟨gb,ob + 2,none⟩)) (.pointer (some ⟨gb,ob + 2 + 2,none⟩)) (.int .i64 q.e.h) (.pointer (some ⟨ga,oa,none⟩)) (.pointer (some ⟨ga,oa,none⟩)) (.pointer (some ⟨ga,oa + 5,none⟩)) (.pointer (some ⟨ga,oa + 5 + 2,none⟩)) (.int .i64 p.b.h) xC xD) hQ (fun w hS => by have e := hS.p.c7; unfold fr69 ops69_1_31; go_simp) hS ?_
 refine take_r 32 ⟨some 37,.binOp .sub 3 (.tmp 31) (.tmp 36) 3,3,ps,#[⟨26,.data⟩,⟨31,.data⟩],none⟩ (.int .i64 (q.e.h - p.b.h)) hQ (fun w hS => by unfold fr69; go_simp; exact wrap_i (by omega) (by omega)) hS ?_
 refine take_k 33 (ops69_1_33 ps) (.agg (suL (lnS p q)).toArray) (fr69 (.pointer (some ⟨ga,oa,none⟩)) (.pointer (some ⟨gb,ob,none⟩)) v2 v3 (.pointer (some ⟨T,0,none⟩)) (.pointer (some ⟨gb,ob,none⟩)) (.pointer (some ⟨gb,ob,none⟩)) (.pointer (some ⟨gb,ob + 2,none⟩)) (.pointer (some ⟨gb,ob + 2,none⟩)) (.int .i64 q.e.w) (.pointer (some ⟨ga,oa,none⟩)) (.pointer (some ⟨ga,oa,none⟩)) (.pointer (some ⟨ga,oa + 5,none⟩)) (.pointer (some ⟨ga,oa + 5,none⟩)) (.int .i64 p.b.w) (.int .i64 (q.e.w - p.b.w)) (.pointer (some ⟨gb,ob,none⟩)) (.pointer (some ⟨gb,ob,none⟩)) (.pointer (some ⟨gb,ob + 2,none⟩)) (.pointer (some ⟨gb,ob + 2 + 1,none⟩)) (.int .i64 q.e.s) (.pointer (some ⟨ga,oa,none⟩)) (.pointer (some ⟨ga,oa,none⟩)) (.pointer (some ⟨ga,oa + 5,none⟩)) (.pointer (some ⟨ga,oa + 5 + 1,none⟩)) (.int .i64 p.b.s) (.int .i64 (q.e.s - p.b.s)) (.pointer (some ⟨gb,ob,none⟩)) (.pointer (some ⟨gb,ob,none⟩)) (.pointer (some ⟨gb,ob + 2,none⟩)) (.pointer (some ⟨gb,ob + 2 + 2,none⟩)) (.int .i64 q.e.h) (.pointer (some ⟨ga,oa,none⟩)) (.pointer (some ⟨ga,oa,none⟩)) (.pointer (some ⟨ga,oa + 5,none⟩)) (.pointer (some ⟨ga,oa + 5 + 2,none⟩)) (.int .i64 p.b.h) (.int .i64 (q.e.h - p.b.h)) (.agg (suL (lnS p q)).toArray)) hQ (fun w hS => by unfold fr69 ops69_1_33; go_simp; try rfl) hS ?_
 refine want_k 34 (ops69_1_34 ps) fun K hK => ?_
 obtain ⟨z,hz⟩ := hS.t
 refine wp_store_row 89 _ _ (by unfold ops69_1_34; rfl) T (suL (lnS p q)).toArray rfl rfl 89 _ hz (info89 _) rfl (suL_all _) ?_
 have hS2 : LnX ga oa p gb ob q T ((World.drew w).setRow T (suL (lnS p q)).toArray) := hS.set ha hb _
 refine hK _ _ hS2 (cast_h (fr69 (.pointer (some ⟨ga,oa,none⟩)) (.pointer (some ⟨gb,ob,none⟩)) v2 v3 (.pointer (some ⟨T,0,none⟩)) (.pointer (some ⟨gb,ob,none⟩)) (.pointer (some ⟨gb,ob,none⟩)) (.pointer (some ⟨gb,ob + 2,none⟩)) (.pointer (some ⟨gb,ob + 2,none⟩)) (.int .i64 q.e.w) (.pointer (some ⟨ga,oa,none⟩)) (.pointer (some ⟨ga,oa,none⟩)) (.pointer (some ⟨ga,oa + 5,none⟩)) (.pointer (some ⟨ga,oa + 5,none⟩)) (.int .i64 p.b.w) (.int .i64 (q.e.w - p.b.w)) (.pointer (some ⟨gb,ob,none⟩)) (.pointer (some ⟨gb,ob,none⟩)) (.pointer (some ⟨gb,ob + 2,none⟩)) (.pointer (some ⟨gb,ob + 2 + 1,none⟩)) (.int .i64 q.e.s) (.pointer (some ⟨ga,oa,none⟩)) (.pointer (some ⟨ga,oa,none⟩)) (.pointer (some ⟨ga,oa + 5,none⟩)) (.pointer (some ⟨ga,oa + 5 + 1,none⟩)) (.int .i64 p.b.s) (.int .i64 (q.e.s - p.b.s)) (.pointer (some ⟨gb,ob,none⟩)) (.pointer (some ⟨gb,ob,none⟩)) (.pointer (some ⟨gb,ob + 2,none⟩)) (.pointer (some ⟨gb,ob + 2 + 2,none⟩)) (.int .i64 q.e.h) (.pointer (some ⟨ga,oa,none⟩)) (.pointer (some ⟨ga,oa,none⟩)) (.pointer (some ⟨ga,oa + 5,none⟩)) (.pointer (some ⟨ga,oa + 5 + 2,none⟩)) (.int .i64 p.b.h) (.int .i64 (q.e.h - p.b.h)) (.agg (suL (lnS p q)).toArray)) (by kernel_rfl) ?_)
 clear hK K
 exact wpAnyH_done (by kernel_rfl) hq _
end Go.Proofs.YtfndocmgonlhpaaGreatDoor
