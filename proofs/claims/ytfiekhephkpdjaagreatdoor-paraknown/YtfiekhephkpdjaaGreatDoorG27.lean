/-
  What is proved here: what beyond and the closure of level answer.
  What is proved here: rows of one's own that are written in place; what IndexFunc answers of what is open.
-/
import Derived.Test.YtfiekhephkpdjaaGreatDoorG1
import Derived.Test.YtfiekhephkpdjaaGreatDoorG26
namespace Go.Proofs.YtfiekhephkpdjaaGreatDoor
open Go.RowKit Go.Shelf
set_option maxRecDepth 100000
set_option maxHeartbeats 1000000

def byB (P : Pl) (a b n : Nat) : Bool := decide (1000 * P.wds.getD n 0 < (P.sts.getD b st0).t - tiI (P.sts.getD a st0).b)
theorem st_d {L : List St} {i : Nat} (h : i < L.length) : L.getD i st0 = L[i] := by rw [List.getD_eq_getElem?_getD,List.getElem?_eq_getElem h]; rfl
theorem in_d {L : List Int} {i : Nat} (h : i < L.length) : L.getD i 0 = L[i] := by rw [List.getD_eq_getElem?_getD,List.getElem?_eq_getElem h]; rfl
theorem st_range {P : Pl} {W : World} (h : PlS P W) {a : Nat} (ha : a < P.sts.length) : W.rangeAt P.gs (P.os + a * 12 + 5) (suL (P.sts[a]'ha).b) := fun j u hu => by
 have hj : j < 3 := (List.getElem?_eq_some_iff.1 hu).1
 have := (h.st a ha).c (5 + j) u (by
  have hj' : j = 0 ∨ j = 1 ∨ j = 2 := by omega
  rcases hj' with rfl | rfl | rfl <;> exact hu)
 rw [show P.os + a * 12 + 5 + j = P.os + a * 12 + (5 + j) by omega]
 exact this
def fr64 (v0 v1 v2 v3 v4 v5 v6 v7 v8 v9 xa xb xc xd xe xf xg xh xi xj xk xl xm xn xo xp xq xr xt xu xv xw xx xy xz xA : Value) : Act := { tmps := #[v0,v1,v2,v3,v4,v5,v6,v7,v8,v9,xa,xb,xc,xd,xe,xf,xg,xh,xi,xj,xk,xl,xm,xn,xo,xp,xq,xr,xt,xu,xv,xw,xx,xy,xz,xA],defers := [] }
def ops64_1_0 (ps : String) : Oper := ⟨some 9,.move (.tmp 0),190,ps,#[],none⟩
def ops64_1_1 (ps : String) : Oper := ⟨some 10,.nilCheck (.tmp 9),0,ps,#[⟨0,.data⟩],none⟩
def ops64_1_2 (ps : String) : Oper := ⟨some 11,.fieldAddr 139 (.tmp 10) 0,0,ps,#[⟨1,.data⟩],none⟩
def ops64_1_3 (ps : String) : Oper := ⟨some 12,.load 130 (.tmp 11),130,ps,#[⟨2,.data⟩],none⟩
def ops64_1_4 (ps : String) : Oper := ⟨some 13,.move (.tmp 2),3,ps,#[],none⟩
def ops64_1_5 (ps : String) : Oper := ⟨some 14,.indexAddr 130 (.tmp 12) (.tmp 13),0,ps,#[⟨3,.data⟩,⟨4,.data⟩],none⟩
def ops64_1_6 (ps : String) : Oper := ⟨some 15,.fieldAddr 184 (.tmp 14) 7,0,ps,#[⟨5,.data⟩],none⟩
def ops64_1_7 (ps : String) : Oper := ⟨some 16,.load 3 (.tmp 15),3,ps,#[⟨6,.data⟩],none⟩
def ops64_1_8 (ps : String) : Oper := ⟨some 17,.move (.tmp 0),190,ps,#[],none⟩
def ops64_1_9 (ps : String) : Oper := ⟨some 18,.nilCheck (.tmp 17),0,ps,#[⟨8,.data⟩],none⟩
def ops64_1_10 (ps : String) : Oper := ⟨some 19,.fieldAddr 139 (.tmp 18) 0,0,ps,#[⟨9,.data⟩],none⟩
def ops64_1_11 (ps : String) : Oper := ⟨some 20,.load 130 (.tmp 19),130,ps,#[⟨10,.data⟩],none⟩
def ops64_1_12 (ps : String) : Oper := ⟨some 21,.move (.tmp 1),3,ps,#[],none⟩
def ops64_1_13 (ps : String) : Oper := ⟨some 22,.indexAddr 130 (.tmp 20) (.tmp 21),0,ps,#[⟨11,.data⟩,⟨12,.data⟩],none⟩
def ops64_1_14 (ps : String) : Oper := ⟨some 23,.fieldAddr 184 (.tmp 22) 3,0,ps,#[⟨13,.data⟩],none⟩
def ops64_1_15 (ps : String) : Oper := ⟨some 24,.load 182 (.tmp 23),182,ps,#[⟨14,.data⟩],none⟩
def ops64_1_16 (ps : String) : Oper := ⟨some 25,.call ⟨.value (.func 101),#[.tmp 24],#[182]⟩,3,ps,#[⟨15,.data⟩],none⟩
def ops64_1_17 (ps : String) : Oper := ⟨some 26,.binOp .sub 3 (.tmp 16) (.tmp 25) 3,3,ps,#[⟨7,.data⟩,⟨16,.data⟩],none⟩
def ops64_1_18 (ps : String) : Oper := ⟨some 27,.move (.tmp 0),190,ps,#[],none⟩
def ops64_1_19 (ps : String) : Oper := ⟨some 28,.nilCheck (.tmp 27),0,ps,#[⟨18,.data⟩],none⟩
def ops64_1_20 (ps : String) : Oper := ⟨some 29,.fieldAddr 139 (.tmp 28) 1,0,ps,#[⟨19,.data⟩],none⟩
def ops64_1_21 (ps : String) : Oper := ⟨some 30,.load 118 (.tmp 29),118,ps,#[⟨20,.data⟩],none⟩
def ops64_1_22 (ps : String) : Oper := ⟨some 31,.move (.tmp 3),3,ps,#[],none⟩
def ops64_1_23 (ps : String) : Oper := ⟨some 32,.indexAddr 118 (.tmp 30) (.tmp 31),0,ps,#[⟨21,.data⟩,⟨22,.data⟩],none⟩
def ops64_1_24 (ps : String) : Oper := ⟨some 33,.load 3 (.tmp 32),3,ps,#[⟨23,.data⟩],none⟩
def ops64_1_25 (ps : String) : Oper := ⟨some 34,.binOp .mul 3 (.const (.int .i64 1000)) (.tmp 33) 3,3,ps,#[⟨24,.data⟩],none⟩
def ops64_1_26 (ps : String) : Oper := ⟨some 35,.binOp .gtr 3 (.tmp 26) (.tmp 34) 3,4,ps,#[⟨17,.data⟩,⟨25,.data⟩],none⟩
def ops64_1_27 (ps : String) : Oper := ⟨some 8,.assign (.tmp 35),4,ps,#[⟨26,.data⟩,⟨16,.chain⟩,⟨0,.phase⟩,⟨1,.phase⟩,⟨2,.phase⟩,⟨3,.phase⟩,⟨4,.phase⟩,⟨5,.phase⟩,⟨6,.phase⟩,⟨7,.phase⟩,⟨8,.phase⟩,⟨9,.phase⟩,⟨10,.phase⟩,⟨11,.phase⟩,⟨12,.phase⟩,⟨13,.phase⟩,⟨14,.phase⟩,⟨15,.phase⟩,⟨16,.phase⟩,⟨17,.phase⟩,⟨18,.phase⟩,⟨19,.phase⟩,⟨20,.phase⟩,⟨21,.phase⟩,⟨22,.phase⟩,⟨23,.phase⟩,⟨24,.phase⟩,⟨25,.phase⟩,⟨26,.phase⟩],none⟩
def ops64_1 (ps : String) : Array Oper := #[ops64_1_0 ps,ops64_1_1 ps,ops64_1_2 ps,ops64_1_3 ps,ops64_1_4 ps,ops64_1_5 ps,ops64_1_6 ps,ops64_1_7 ps,ops64_1_8 ps,ops64_1_9 ps,ops64_1_10 ps,ops64_1_11 ps,ops64_1_12 ps,ops64_1_13 ps,ops64_1_14 ps,ops64_1_15 ps,ops64_1_16 ps,ops64_1_17 ps,ops64_1_18 ps,ops64_1_19 ps,ops64_1_20 ps,ops64_1_21 ps,ops64_1_22 ps,ops64_1_23 ps,ops64_1_24 ps,ops64_1_25 ps,ops64_1_26 ps,ops64_1_27 ps]

theorem be_r1 (Q : Exit → Act → World → Prop) (hQ : ∀ c x (n : Nat) v w,Q (.panic c) (x.put (some n) v) w → Q (.panic c) x w) (id : Nat) (ps : String) {v4 v5 v6 v7 v8 v9 xa xb xc xd xe xf xg xh xi xj xk xl xm xn xo xp xq xr xt xu xv xw xx xy xz xA : Value} (P : Pl) (a b n : Nat) (w : World) (hS : PlS P (World.drew w))
  (ha : a < P.sts.length) (hb : b < P.sts.length) (hn : n < P.wds.length) (ha' : (a : Int) < P.sts.length) (hb' : (b : Int) < P.sts.length) (hn' : (n : Int) < P.wds.length)
  (hti : Hid (∀ W,Calls Tryz.prog 101 #[.agg (suL (P.sts[a]'ha).b).toArray] W fun e w' => e = .returned (.int .i64 (tiI (P.sts[a]'ha).b)) ∧ Below W.heap.size W w'))
  (r1 : -17592186044416 ≤ (P.sts[b]'hb).t) (r2 : (P.sts[b]'hb).t ≤ 17592186044416) (r3 : -17592186044416 ≤ tiI (P.sts[a]'ha).b) (r4 : tiI (P.sts[a]'ha).b ≤ 17592186044416) (r5 : 0 ≤ (P.wds[n]'hn)) (r6 : (P.wds[n]'hn) ≤ 4095)
  (hq : ∀ w',Below w.heap.size w w' → Q .normal (fr64 (.pointer (some ⟨P.B,0,none⟩)) (.int .i64 (a : Nat)) (.int .i64 (b : Nat)) (.int .i64 (n : Nat)) v4 v5 v6 v7 (.bool (decide (1000 * (P.wds[n]'hn) < (P.sts[b]'hb).t - tiI (P.sts[a]'ha).b))) (.pointer (some ⟨P.B,0,none⟩)) (.pointer (some ⟨P.B,0,none⟩)) (.pointer (some ⟨P.B,0,none⟩)) (.slice (some ⟨P.gs,P.os,none⟩) P.sts.length P.cs) (.int .i64 (b : Nat)) (.pointer (some ⟨P.gs,P.os + b * 12,none⟩)) (.pointer (some ⟨P.gs,P.os + b * 12 + 11,none⟩)) (.int .i64 (P.sts[b]'hb).t) (.pointer (some ⟨P.B,0,none⟩)) (.pointer (some ⟨P.B,0,none⟩)) (.pointer (some ⟨P.B,0,none⟩)) (.slice (some ⟨P.gs,P.os,none⟩) P.sts.length P.cs) (.int .i64 (a : Nat)) (.pointer (some ⟨P.gs,P.os + a * 12,none⟩)) (.pointer (some ⟨P.gs,P.os + a * 12 + 5,none⟩)) (.agg (suL (P.sts[a]'ha).b).toArray) (.int .i64 (tiI (P.sts[a]'ha).b)) (.int .i64 ((P.sts[b]'hb).t - (tiI (P.sts[a]'ha).b))) (.pointer (some ⟨P.B,0,none⟩)) (.pointer (some ⟨P.B,0,none⟩)) (.pointer (some ⟨P.B,1,none⟩)) (.slice (some ⟨P.gw,P.ow,none⟩) P.wds.length P.cw) (.int .i64 (n : Nat)) (.pointer (some ⟨P.gw,P.ow + n,none⟩)) (.int .i64 (P.wds[n]'hn)) (.int .i64 (1000 * (P.wds[n]'hn))) (.bool (decide (1000 * (P.wds[n]'hn) < (P.sts[b]'hb).t - tiI (P.sts[a]'ha).b)))) w') :
  (Code.region id (ops64_1 ps) true).wp Tryz.prog Q (fr64 (.pointer (some ⟨P.B,0,none⟩)) (.int .i64 (a : Nat)) (.int .i64 (b : Nat)) (.int .i64 (n : Nat)) v4 v5 v6 v7 v8 v9 xa xb xc xd xe xf xg xh xi xj xk xl xm xn xo xp xq xr xt xu xv xw xx xy xz xA) w := by
 refine wp_region_held (S := PlS P) (by kernel_rfl) ?_
 change wpAnyH _ _ _ _ _ 28 _ _ (World.drew w)
 refine take_r 0 ⟨some 9,.move (.tmp 0),190,ps,#[],none⟩ (.pointer (some ⟨P.B,0,none⟩)) hQ (fun w _ => by kernel_rfl) hS ?_
 refine take_k 1 (ops64_1_1 ps) (.pointer (some ⟨P.B,0,none⟩)) (fr64 (.pointer (some ⟨P.B,0,none⟩)) (.int .i64 (a : Nat)) (.int .i64 (b : Nat)) (.int .i64 (n : Nat)) v4 v5 v6 v7 v8 (.pointer (some ⟨P.B,0,none⟩)) (.pointer (some ⟨P.B,0,none⟩)) xb xc xd xe xf xg xh xi xj xk xl xm xn xo xp xq xr xt xu xv xw xx xy xz xA) hQ (fun w hS => by unfold fr64 ops64_1_1; go_simp) hS ?_
 refine take_r 2 ⟨some 11,.fieldAddr 139 (.tmp 10) 0,0,ps,#[⟨1,.data⟩],none⟩ (.pointer (some ⟨P.B,0,none⟩)) hQ (fun w hS => by unfold fr64; go_simp) hS ?_
 refine take_k 3 (ops64_1_3 ps) (.slice (some ⟨P.gs,P.os,none⟩) P.sts.length P.cs) (fr64 (.pointer (some ⟨P.B,0,none⟩)) (.int .i64 (a : Nat)) (.int .i64 (b : Nat)) (.int .i64 (n : Nat)) v4 v5 v6 v7 v8 (.pointer (some ⟨P.B,0,none⟩)) (.pointer (some ⟨P.B,0,none⟩)) (.pointer (some ⟨P.B,0,none⟩)) (.slice (some ⟨P.gs,P.os,none⟩) P.sts.length P.cs) xd xe xf xg xh xi xj xk xl xm xn xo xp xq xr xt xu xv xw xx xy xz xA) hQ (fun w hS => by have e := hS.c0; unfold fr64 ops64_1_3; go_simp) hS ?_
 refine take_r 4 ⟨some 13,.move (.tmp 2),3,ps,#[],none⟩ (.int .i64 (b : Nat)) hQ (fun w _ => by kernel_rfl) hS ?_
 refine take_k 5 (ops64_1_5 ps) (.pointer (some ⟨P.gs,P.os + b * 12,none⟩)) (fr64 (.pointer (some ⟨P.B,0,none⟩)) (.int .i64 (a : Nat)) (.int .i64 (b : Nat)) (.int .i64 (n : Nat)) v4 v5 v6 v7 v8 (.pointer (some ⟨P.B,0,none⟩)) (.pointer (some ⟨P.B,0,none⟩)) (.pointer (some ⟨P.B,0,none⟩)) (.slice (some ⟨P.gs,P.os,none⟩) P.sts.length P.cs) (.int .i64 (b : Nat)) (.pointer (some ⟨P.gs,P.os + b * 12,none⟩)) xf xg xh xi xj xk xl xm xn xo xp xq xr xt xu xv xw xx xy xz xA) hQ (fun w hS => by unfold fr64 ops64_1_5; go_simp) hS ?_
 refine take_r 6 ⟨some 15,.fieldAddr 184 (.tmp 14) 7,0,ps,#[⟨5,.data⟩],none⟩ (.pointer (some ⟨P.gs,P.os + b * 12 + 11,none⟩)) hQ (fun w hS => by unfold fr64; go_simp) hS ?_
 refine take_k 7 (ops64_1_7 ps) (.int .i64 (P.sts[b]'hb).t) (fr64 (.pointer (some ⟨P.B,0,none⟩)) (.int .i64 (a : Nat)) (.int .i64 (b : Nat)) (.int .i64 (n : Nat)) v4 v5 v6 v7 v8 (.pointer (some ⟨P.B,0,none⟩)) (.pointer (some ⟨P.B,0,none⟩)) (.pointer (some ⟨P.B,0,none⟩)) (.slice (some ⟨P.gs,P.os,none⟩) P.sts.length P.cs) (.int .i64 (b : Nat)) (.pointer (some ⟨P.gs,P.os + b * 12,none⟩)) (.pointer (some ⟨P.gs,P.os + b * 12 + 11,none⟩)) (.int .i64 (P.sts[b]'hb).t) xh xi xj xk xl xm xn xo xp xq xr xt xu xv xw xx xy xz xA) hQ (fun w hS => by have e := (hS.st b hb).c11; unfold fr64 ops64_1_7; go_simp) hS ?_
 refine take_r 8 ⟨some 17,.move (.tmp 0),190,ps,#[],none⟩ (.pointer (some ⟨P.B,0,none⟩)) hQ (fun w _ => by kernel_rfl) hS ?_
 refine take_k 9 (ops64_1_9 ps) (.pointer (some ⟨P.B,0,none⟩)) (fr64 (.pointer (some ⟨P.B,0,none⟩)) (.int .i64 (a : Nat)) (.int .i64 (b : Nat)) (.int .i64 (n : Nat)) v4 v5 v6 v7 v8 (.pointer (some ⟨P.B,0,none⟩)) (.pointer (some ⟨P.B,0,none⟩)) (.pointer (some ⟨P.B,0,none⟩)) (.slice (some ⟨P.gs,P.os,none⟩) P.sts.length P.cs) (.int .i64 (b : Nat)) (.pointer (some ⟨P.gs,P.os + b * 12,none⟩)) (.pointer (some ⟨P.gs,P.os + b * 12 + 11,none⟩)) (.int .i64 (P.sts[b]'hb).t) (.pointer (some ⟨P.B,0,none⟩)) (.pointer (some ⟨P.B,0,none⟩)) xj xk xl xm xn xo xp xq xr xt xu xv xw xx xy xz xA) hQ (fun w hS => by unfold fr64 ops64_1_9; go_simp) hS ?_
 refine take_r 10 ⟨some 19,.fieldAddr 139 (.tmp 18) 0,0,ps,#[⟨9,.data⟩],none⟩ (.pointer (some ⟨P.B,0,none⟩)) hQ (fun w hS => by unfold fr64; go_simp) hS ?_
 refine take_k 11 (ops64_1_11 ps) (.slice (some ⟨P.gs,P.os,none⟩) P.sts.length P.cs) (fr64 (.pointer (some ⟨P.B,0,none⟩)) (.int .i64 (a : Nat)) (.int .i64 (b : Nat)) (.int .i64 (n : Nat)) v4 v5 v6 v7 v8 (.pointer (some ⟨P.B,0,none⟩)) (.pointer (some ⟨P.B,0,none⟩)) (.pointer (some ⟨P.B,0,none⟩)) (.slice (some ⟨P.gs,P.os,none⟩) P.sts.length P.cs) (.int .i64 (b : Nat)) (.pointer (some ⟨P.gs,P.os + b * 12,none⟩)) (.pointer (some ⟨P.gs,P.os + b * 12 + 11,none⟩)) (.int .i64 (P.sts[b]'hb).t) (.pointer (some ⟨P.B,0,none⟩)) (.pointer (some ⟨P.B,0,none⟩)) (.pointer (some ⟨P.B,0,none⟩)) (.slice (some ⟨P.gs,P.os,none⟩) P.sts.length P.cs) xl xm xn xo xp xq xr xt xu xv xw xx xy xz xA) hQ (fun w hS => by have e := hS.c0; unfold fr64 ops64_1_11; go_simp) hS ?_
 refine take_r 12 ⟨some 21,.move (.tmp 1),3,ps,#[],none⟩ (.int .i64 (a : Nat)) hQ (fun w _ => by kernel_rfl) hS ?_
 refine take_k 13 (ops64_1_13 ps) (.pointer (some ⟨P.gs,P.os + a * 12,none⟩)) (fr64 (.pointer (some ⟨P.B,0,none⟩)) (.int .i64 (a : Nat)) (.int .i64 (b : Nat)) (.int .i64 (n : Nat)) v4 v5 v6 v7 v8 (.pointer (some ⟨P.B,0,none⟩)) (.pointer (some ⟨P.B,0,none⟩)) (.pointer (some ⟨P.B,0,none⟩)) (.slice (some ⟨P.gs,P.os,none⟩) P.sts.length P.cs) (.int .i64 (b : Nat)) (.pointer (some ⟨P.gs,P.os + b * 12,none⟩)) (.pointer (some ⟨P.gs,P.os + b * 12 + 11,none⟩)) (.int .i64 (P.sts[b]'hb).t) (.pointer (some ⟨P.B,0,none⟩)) (.pointer (some ⟨P.B,0,none⟩)) (.pointer (some ⟨P.B,0,none⟩)) (.slice (some ⟨P.gs,P.os,none⟩) P.sts.length P.cs) (.int .i64 (a : Nat)) (.pointer (some ⟨P.gs,P.os + a * 12,none⟩)) xn xo xp xq xr xt xu xv xw xx xy xz xA) hQ (fun w hS => by unfold fr64 ops64_1_13; go_simp) hS ?_
 refine take_r 14 ⟨some 23,.fieldAddr 184 (.tmp 22) 3,0,ps,#[⟨13,.data⟩],none⟩ (.pointer (some ⟨P.gs,P.os + a * 12 + 5,none⟩)) hQ (fun w hS => by unfold fr64; go_simp) hS ?_
 refine take_k 15 (ops64_1_15 ps) (.agg (suL (P.sts[a]'ha).b).toArray) (fr64 (.pointer (some ⟨P.B,0,none⟩)) (.int .i64 (a : Nat)) (.int .i64 (b : Nat)) (.int .i64 (n : Nat)) v4 v5 v6 v7 v8 (.pointer (some ⟨P.B,0,none⟩)) (.pointer (some ⟨P.B,0,none⟩)) (.pointer (some ⟨P.B,0,none⟩)) (.slice (some ⟨P.gs,P.os,none⟩) P.sts.length P.cs) (.int .i64 (b : Nat)) (.pointer (some ⟨P.gs,P.os + b * 12,none⟩)) (.pointer (some ⟨P.gs,P.os + b * 12 + 11,none⟩)) (.int .i64 (P.sts[b]'hb).t) (.pointer (some ⟨P.B,0,none⟩)) (.pointer (some ⟨P.B,0,none⟩)) (.pointer (some ⟨P.B,0,none⟩)) (.slice (some ⟨P.gs,P.os,none⟩) P.sts.length P.cs) (.int .i64 (a : Nat)) (.pointer (some ⟨P.gs,P.os + a * 12,none⟩)) (.pointer (some ⟨P.gs,P.os + a * 12 + 5,none⟩)) (.agg (suL (P.sts[a]'ha).b).toArray) xp xq xr xt xu xv xw xx xy xz xA) hQ (fun w hS => exec_load_mid (x := (Operand.tmp 23)) 182 P.gs (P.os + a * 12 + 5) (suL (P.sts[a]'ha).b) _ (by kernel_rfl) (by kernel_rfl) (st_range hS ha) Tryz.underlying182 rfl (info89l _)) hS ?_
 refine take_r 18 ⟨some 27,.move (.tmp 0),190,ps,#[],none⟩ (.pointer (some ⟨P.B,0,none⟩)) hQ (fun w _ => by kernel_rfl) hS ?_
 refine take_k 19 (ops64_1_19 ps) (.pointer (some ⟨P.B,0,none⟩)) (fr64 (.pointer (some ⟨P.B,0,none⟩)) (.int .i64 (a : Nat)) (.int .i64 (b : Nat)) (.int .i64 (n : Nat)) v4 v5 v6 v7 v8 (.pointer (some ⟨P.B,0,none⟩)) (.pointer (some ⟨P.B,0,none⟩)) (.pointer (some ⟨P.B,0,none⟩)) (.slice (some ⟨P.gs,P.os,none⟩) P.sts.length P.cs) (.int .i64 (b : Nat)) (.pointer (some ⟨P.gs,P.os + b * 12,none⟩)) (.pointer (some ⟨P.gs,P.os + b * 12 + 11,none⟩)) (.int .i64 (P.sts[b]'hb).t) (.pointer (some ⟨P.B,0,none⟩)) (.pointer (some ⟨P.B,0,none⟩)) (.pointer (some ⟨P.B,0,none⟩)) (.slice (some ⟨P.gs,P.os,none⟩) P.sts.length P.cs) (.int .i64 (a : Nat)) (.pointer (some ⟨P.gs,P.os + a * 12,none⟩)) (.pointer (some ⟨P.gs,P.os + a * 12 + 5,none⟩)) (.agg (suL (P.sts[a]'ha).b).toArray) xp xq (.pointer (some ⟨P.B,0,none⟩)) (.pointer (some ⟨P.B,0,none⟩)) xu xv xw xx xy xz xA) hQ (fun w hS => by unfold fr64 ops64_1_19; go_simp) hS ?_
 refine take_r 20 ⟨some 29,.fieldAddr 139 (.tmp 28) 1,0,ps,#[⟨19,.data⟩],none⟩ (.pointer (some ⟨P.B,1,none⟩)) hQ (fun w hS => by unfold fr64; go_simp) hS ?_
 refine take_k 21 (ops64_1_21 ps) (.slice (some ⟨P.gw,P.ow,none⟩) P.wds.length P.cw) (fr64 (.pointer (some ⟨P.B,0,none⟩)) (.int .i64 (a : Nat)) (.int .i64 (b : Nat)) (.int .i64 (n : Nat)) v4 v5 v6 v7 v8 (.pointer (some ⟨P.B,0,none⟩)) (.pointer (some ⟨P.B,0,none⟩)) (.pointer (some ⟨P.B,0,none⟩)) (.slice (some ⟨P.gs,P.os,none⟩) P.sts.length P.cs) (.int .i64 (b : Nat)) (.pointer (some ⟨P.gs,P.os + b * 12,none⟩)) (.pointer (some ⟨P.gs,P.os + b * 12 + 11,none⟩)) (.int .i64 (P.sts[b]'hb).t) (.pointer (some ⟨P.B,0,none⟩)) (.pointer (some ⟨P.B,0,none⟩)) (.pointer (some ⟨P.B,0,none⟩)) (.slice (some ⟨P.gs,P.os,none⟩) P.sts.length P.cs) (.int .i64 (a : Nat)) (.pointer (some ⟨P.gs,P.os + a * 12,none⟩)) (.pointer (some ⟨P.gs,P.os + a * 12 + 5,none⟩)) (.agg (suL (P.sts[a]'ha).b).toArray) xp xq (.pointer (some ⟨P.B,0,none⟩)) (.pointer (some ⟨P.B,0,none⟩)) (.pointer (some ⟨P.B,1,none⟩)) (.slice (some ⟨P.gw,P.ow,none⟩) P.wds.length P.cw) xw xx xy xz xA) hQ (fun w hS => by have e := hS.c1; unfold fr64 ops64_1_21; go_simp) hS ?_
 refine take_r 22 ⟨some 31,.move (.tmp 3),3,ps,#[],none⟩ (.int .i64 (n : Nat)) hQ (fun w _ => by kernel_rfl) hS ?_
 refine take_k 23 (ops64_1_23 ps) (.pointer (some ⟨P.gw,P.ow + n,none⟩)) (fr64 (.pointer (some ⟨P.B,0,none⟩)) (.int .i64 (a : Nat)) (.int .i64 (b : Nat)) (.int .i64 (n : Nat)) v4 v5 v6 v7 v8 (.pointer (some ⟨P.B,0,none⟩)) (.pointer (some ⟨P.B,0,none⟩)) (.pointer (some ⟨P.B,0,none⟩)) (.slice (some ⟨P.gs,P.os,none⟩) P.sts.length P.cs) (.int .i64 (b : Nat)) (.pointer (some ⟨P.gs,P.os + b * 12,none⟩)) (.pointer (some ⟨P.gs,P.os + b * 12 + 11,none⟩)) (.int .i64 (P.sts[b]'hb).t) (.pointer (some ⟨P.B,0,none⟩)) (.pointer (some ⟨P.B,0,none⟩)) (.pointer (some ⟨P.B,0,none⟩)) (.slice (some ⟨P.gs,P.os,none⟩) P.sts.length P.cs) (.int .i64 (a : Nat)) (.pointer (some ⟨P.gs,P.os + a * 12,none⟩)) (.pointer (some ⟨P.gs,P.os + a * 12 + 5,none⟩)) (.agg (suL (P.sts[a]'ha).b).toArray) xp xq (.pointer (some ⟨P.B,0,none⟩)) (.pointer (some ⟨P.B,0,none⟩)) (.pointer (some ⟨P.B,1,none⟩)) (.slice (some ⟨P.gw,P.ow,none⟩) P.wds.length P.cw) (.int .i64 (n : Nat)) (.pointer (some ⟨P.gw,P.ow + n,none⟩)) xy xz xA) hQ (fun w hS => by unfold fr64 ops64_1_23; go_simp) hS ?_
 refine take_r 24 ⟨some 33,.load 3 (.tmp 32),3,ps,#[⟨23,.data⟩],none⟩ (.int .i64 (P.wds[n]'hn)) hQ (fun w hS => by have e := hS.wd n hn; unfold fr64; go_simp) hS ?_
 refine take_k 25 (ops64_1_25 ps) (.int .i64 (1000 * (P.wds[n]'hn))) (fr64 (.pointer (some ⟨P.B,0,none⟩)) (.int .i64 (a : Nat)) (.int .i64 (b : Nat)) (.int .i64 (n : Nat)) v4 v5 v6 v7 v8 (.pointer (some ⟨P.B,0,none⟩)) (.pointer (some ⟨P.B,0,none⟩)) (.pointer (some ⟨P.B,0,none⟩)) (.slice (some ⟨P.gs,P.os,none⟩) P.sts.length P.cs) (.int .i64 (b : Nat)) (.pointer (some ⟨P.gs,P.os + b * 12,none⟩)) (.pointer (some ⟨P.gs,P.os + b * 12 + 11,none⟩)) (.int .i64 (P.sts[b]'hb).t) (.pointer (some ⟨P.B,0,none⟩)) (.pointer (some ⟨P.B,0,none⟩)) (.pointer (some ⟨P.B,0,none⟩)) (.slice (some ⟨P.gs,P.os,none⟩) P.sts.length P.cs) (.int .i64 (a : Nat)) (.pointer (some ⟨P.gs,P.os + a * 12,none⟩)) (.pointer (some ⟨P.gs,P.os + a * 12 + 5,none⟩)) (.agg (suL (P.sts[a]'ha).b).toArray) xp xq (.pointer (some ⟨P.B,0,none⟩)) (.pointer (some ⟨P.B,0,none⟩)) (.pointer (some ⟨P.B,1,none⟩)) (.slice (some ⟨P.gw,P.ow,none⟩) P.wds.length P.cw) (.int .i64 (n : Nat)) (.pointer (some ⟨P.gw,P.ow + n,none⟩)) (.int .i64 (P.wds[n]'hn)) (.int .i64 (1000 * (P.wds[n]'hn))) xA) hQ (fun w hS => by unfold fr64 ops64_1_25; go_simp; try exact wrap_i (by omega) (by omega)) hS ?_
 refine want_k 16 (ops64_1_16 ps) fun K hK => ?_
 unfold fr64 ops64_1_16
 go_simp
 refine (hti.out _).mono ?_
 rintro e w1 ⟨rfl,B1⟩
 have hS1 : PlS P w1 := hS.below B1
 refine hK _ _ hS1 (cast_h (fr64 (.pointer (some ⟨P.B,0,none⟩)) (.int .i64 (a : Nat)) (.int .i64 (b : Nat)) (.int .i64 (n : Nat)) v4 v5 v6 v7 v8 (.pointer (some ⟨P.B,0,none⟩)) (.pointer (some ⟨P.B,0,none⟩)) (.pointer (some ⟨P.B,0,none⟩)) (.slice (some ⟨P.gs,P.os,none⟩) P.sts.length P.cs) (.int .i64 (b : Nat)) (.pointer (some ⟨P.gs,P.os + b * 12,none⟩)) (.pointer (some ⟨P.gs,P.os + b * 12 + 11,none⟩)) (.int .i64 (P.sts[b]'hb).t) (.pointer (some ⟨P.B,0,none⟩)) (.pointer (some ⟨P.B,0,none⟩)) (.pointer (some ⟨P.B,0,none⟩)) (.slice (some ⟨P.gs,P.os,none⟩) P.sts.length P.cs) (.int .i64 (a : Nat)) (.pointer (some ⟨P.gs,P.os + a * 12,none⟩)) (.pointer (some ⟨P.gs,P.os + a * 12 + 5,none⟩)) (.agg (suL (P.sts[a]'ha).b).toArray) (.int .i64 (tiI (P.sts[a]'ha).b)) xq (.pointer (some ⟨P.B,0,none⟩)) (.pointer (some ⟨P.B,0,none⟩)) (.pointer (some ⟨P.B,1,none⟩)) (.slice (some ⟨P.gw,P.ow,none⟩) P.wds.length P.cw) (.int .i64 (n : Nat)) (.pointer (some ⟨P.gw,P.ow + n,none⟩)) (.int .i64 (P.wds[n]'hn)) (.int .i64 (1000 * (P.wds[n]'hn))) xA) (by kernel_rfl) ?_)
 clear hK K
 refine take_r 17 ⟨some 26,.binOp .sub 3 (.tmp 16) (.tmp 25) 3,3,ps,#[⟨7,.data⟩,⟨16,.data⟩],none⟩ (.int .i64 ((P.sts[b]'hb).t - (tiI (P.sts[a]'ha).b))) hQ (fun w hS => by unfold fr64; go_simp; try exact wrap_i (by omega) (by omega)) hS1 ?_
 refine take_k 26 (ops64_1_26 ps) (.bool (decide (1000 * (P.wds[n]'hn) < (P.sts[b]'hb).t - tiI (P.sts[a]'ha).b))) (fr64 (.pointer (some ⟨P.B,0,none⟩)) (.int .i64 (a : Nat)) (.int .i64 (b : Nat)) (.int .i64 (n : Nat)) v4 v5 v6 v7 v8 (.pointer (some ⟨P.B,0,none⟩)) (.pointer (some ⟨P.B,0,none⟩)) (.pointer (some ⟨P.B,0,none⟩)) (.slice (some ⟨P.gs,P.os,none⟩) P.sts.length P.cs) (.int .i64 (b : Nat)) (.pointer (some ⟨P.gs,P.os + b * 12,none⟩)) (.pointer (some ⟨P.gs,P.os + b * 12 + 11,none⟩)) (.int .i64 (P.sts[b]'hb).t) (.pointer (some ⟨P.B,0,none⟩)) (.pointer (some ⟨P.B,0,none⟩)) (.pointer (some ⟨P.B,0,none⟩)) (.slice (some ⟨P.gs,P.os,none⟩) P.sts.length P.cs) (.int .i64 (a : Nat)) (.pointer (some ⟨P.gs,P.os + a * 12,none⟩)) (.pointer (some ⟨P.gs,P.os + a * 12 + 5,none⟩)) (.agg (suL (P.sts[a]'ha).b).toArray) (.int .i64 (tiI (P.sts[a]'ha).b)) (.int .i64 ((P.sts[b]'hb).t - (tiI (P.sts[a]'ha).b))) (.pointer (some ⟨P.B,0,none⟩)) (.pointer (some ⟨P.B,0,none⟩)) (.pointer (some ⟨P.B,1,none⟩)) (.slice (some ⟨P.gw,P.ow,none⟩) P.wds.length P.cw) (.int .i64 (n : Nat)) (.pointer (some ⟨P.gw,P.ow + n,none⟩)) (.int .i64 (P.wds[n]'hn)) (.int .i64 (1000 * (P.wds[n]'hn))) (.bool (decide (1000 * (P.wds[n]'hn) < (P.sts[b]'hb).t - tiI (P.sts[a]'ha).b)))) hQ (fun w hS => by unfold fr64 ops64_1_26; go_simp) hS1 ?_
 refine take_r 27 ⟨some 8,.assign (.tmp 35),4,ps,#[⟨26,.data⟩,⟨16,.chain⟩,⟨0,.phase⟩,⟨1,.phase⟩,⟨2,.phase⟩,⟨3,.phase⟩,⟨4,.phase⟩,⟨5,.phase⟩,⟨6,.phase⟩,⟨7,.phase⟩,⟨8,.phase⟩,⟨9,.phase⟩,⟨10,.phase⟩,⟨11,.phase⟩,⟨12,.phase⟩,⟨13,.phase⟩,⟨14,.phase⟩,⟨15,.phase⟩,⟨16,.phase⟩,⟨17,.phase⟩,⟨18,.phase⟩,⟨19,.phase⟩,⟨20,.phase⟩,⟨21,.phase⟩,⟨22,.phase⟩,⟨23,.phase⟩,⟨24,.phase⟩,⟨25,.phase⟩,⟨26,.phase⟩],none⟩ (.bool (decide (1000 * (P.wds[n]'hn) < (P.sts[b]'hb).t - tiI (P.sts[a]'ha).b))) hQ (fun w _ => by kernel_rfl) hS1 ?_
 exact wpAnyH_done (by kernel_rfl) (hq _ ((below_drew w).trans B1)) _

theorem beyond_any (l : List It) (P : Pl) (hO : PlOk l P) (a b n : Nat) (ha : a < P.sts.length) (hb : b < P.sts.length) (hn : n < P.wds.length) (w : World) (hP : PlS P w) : Calls Tryz.prog 140 #[.pointer (some ⟨P.B,0,none⟩),.int .i64 a,.int .i64 b,.int .i64 n] w fun e w' => e = .returned (.bool (byB P a b n)) ∧ Below w.heap.size w w' := by
 have hA := (hO.f _ (List.getElem_mem ha)).2
 have hB := (hO.f _ (List.getElem_mem hb)).2
 have hW := hO.w _ (List.getElem_mem hn)
 have hti : Hid (∀ W,Calls Tryz.prog 101 #[.agg (suL (P.sts[a]'ha).b).toArray] W fun e w' => e = .returned (.int .i64 (tiI (P.sts[a]'ha).b)) ∧ Below W.heap.size W w') := fun W => tight_any _ hA.b W
 have hr := ti_rng hA.b
 have hv : byB P a b n = decide (1000 * (P.wds[n]'hn) < (P.sts[b]'hb).t - tiI (P.sts[a]'ha).b) := by unfold byB; rw [st_d ha,st_d hb,in_d hn]
 rw [hv]
 have hPh : Hid (PlS P (World.drew w)) := hP.drew
 have ha' : (a : Int) < P.sts.length := by omega
 have hb' : (b : Int) < P.sts.length := by omega
 have hn' : (n : Int) < P.wds.length := by omega
 clear hv hP
 go_enter Tryz.func140,Tryz.ntmps140
 go_wp2_with fail
 refine be_r1 _ (fun _ _ _ _ _ h => h) _ _ P a b n w hPh.out ha hb hn ha' hb' hn' hti hB.t.1 hB.t.2 hr.1 hr.2 hW.1 hW.2 ?_
 intro w2 hb2
 unfold fr64
 go_wp2_with fail
 go_ret
 exact ⟨rfl,hb2⟩
structure Re where
 s : Nat
 y : Wy
def reL (x : Re) : List Value := [.int .i64 x.s,.int .i64 x.y.d,.int .i64 x.y.n,.int .i64 x.y.f]
theorem reL_len (x : Re) : (reL x).length = 4 := rfl
theorem reL_one (x : Re) : ∀ u ∈ reL x,u.oneCell' = true := by
 intro u hu; simp [reL] at hu; rcases hu with rfl | rfl | rfl | rfl <;> rfl
theorem info143 (p : Re) : (Tryz.prog.info? 236).map (·.size) = some (reL p).toArray.size := by show _ = some 4; kernel_rfl
theorem reL_all (p : Re) : (reL p).toArray.all (·.oneCell') = true := all_oneCell_toArray (reL_one p)
def re0 : Re := ⟨0,wy0⟩
structure ClS (P : Pl) (x1 x2 x3 b n : Nat) (W : World) : Prop where
 p : PlS P W
 c1 : W.cell? ⟨x1,0,none⟩ = some (.pointer (some ⟨P.B,0,none⟩))
 c2 : W.cell? ⟨x2,0,none⟩ = some (.int .i64 (b : Nat))
 c3 : W.cell? ⟨x3,0,none⟩ = some (.int .i64 (n : Nat))
 l1 : x1 < W.heap.size
 l2 : x2 < W.heap.size
 l3 : x3 < W.heap.size
theorem ClS.keep {P : Pl} {x1 x2 x3 b n : Nat} {W W' : World} {X : Nat → Prop} (h : ClS P x1 x2 x3 b n W) (ht : Turns X W W') (h1 : ¬ X P.B) (h2 : ¬ X P.gs) (h3 : ¬ X P.gw) (h4 : ¬ X x1) (h5 : ¬ X x2) (h6 : ¬ X x3) : ClS P x1 x2 x3 b n W' := by
 have e : ∀ k,k < W.heap.size → ¬ X k → W'.cell? ⟨k,0,none⟩ = W.cell? ⟨k,0,none⟩ := fun k hk hx => by unfold World.cell?; simp only [ht.block k hk hx]
 exact ⟨h.p.keep ht h1 h2 h3,(e _ h.l1 h4).trans h.c1,(e _ h.l2 h5).trans h.c2,(e _ h.l3 h6).trans h.c3,Nat.lt_of_lt_of_le h.l1 ht.size,Nat.lt_of_lt_of_le h.l2 ht.size,Nat.lt_of_lt_of_le h.l3 ht.size⟩
theorem ClS.below {P : Pl} {x1 x2 x3 b n : Nat} {W W' : World} (h : ClS P x1 x2 x3 b n W) (hb : Below W.heap.size W W') : ClS P x1 x2 x3 b n W' := h.keep (Turns.of_below hb) (fun h => h) (fun h => h) (fun h => h) (fun h => h) (fun h => h) (fun h => h)
theorem level1_any (l : List It) (P : Pl) (hO : PlOk l P) (x1 x2 x3 b n : Nat) (r : Re) (hr : r.s < P.sts.length) (hb : b < P.sts.length) (hn : n < P.wds.length) (w : World) (hC : ClS P x1 x2 x3 b n w) : Calls Tryz.prog 139 #[.agg #[.int .i64 r.s,.int .i64 r.y.d,.int .i64 r.y.n,.int .i64 r.y.f],.pointer (some ⟨x1,0,none⟩),.pointer (some ⟨x2,0,none⟩),.pointer (some ⟨x3,0,none⟩)] w fun e w' => e = .returned (.bool (byB P r.s b n)) ∧ Below w.heap.size w w' := by
 have hb0 := (Below.refl w.heap.size w).alloc (Nat.le_refl _) (.cells #[.int .i64 r.s,.int .i64 r.y.d,.int .i64 r.y.n,.int .i64 r.y.f] 236)
 have hC1 := hC.below hb0
 have hbe : Hid (Calls Tryz.prog 140 #[.pointer (some ⟨P.B,0,none⟩),.int .i64 r.s,.int .i64 b,.int .i64 n] (w.alloc (.cells #[.int .i64 r.s,.int .i64 r.y.d,.int .i64 r.y.n,.int .i64 r.y.f] 236)) fun e w' => e = .returned (.bool (byB P r.s b n)) ∧ Below (w.alloc (.cells #[.int .i64 r.s,.int .i64 r.y.d,.int .i64 r.y.n,.int .i64 r.y.f] 236)).heap.size (w.alloc (.cells #[.int .i64 r.s,.int .i64 r.y.d,.int .i64 r.y.n,.int .i64 r.y.f] 236)) w') := beyond_any l P hO r.s b n hr hb hn _ hC1.p
 have k1 := hC1.c1
 have k2 := hC1.c2
 have k3 := hC1.c3
 have k0 : (w.alloc (.cells #[.int .i64 r.s,.int .i64 r.y.d,.int .i64 r.y.n,.int .i64 r.y.f] 236)).cell? ⟨w.heap.size,0,none⟩ = some (.int .i64 r.s) := by rw [Lib.cell_of_heap (World.alloc_heap_new w _)]; rfl
 have hb0h : Hid (Below w.heap.size w (w.alloc (.cells #[.int .i64 r.s,.int .i64 r.y.d,.int .i64 r.y.n,.int .i64 r.y.f] 236))) := hb0
 clear hC hC1 hb0
 go_enter Tryz.func139,Tryz.ntmps139
 go_wp2_with fail
 generalize w.alloc (.cells #[.int .i64 r.s,.int .i64 r.y.d,.int .i64 r.y.n,.int .i64 r.y.f] 236) = wz at *
 go_wp2_with (go_at_call 140; refine hbe.out.mono ?_; rintro e w2 ⟨rfl,hb2⟩)
 go_ret
 exact ⟨rfl,hb0h.out.trans (hb2.mono hb0h.out.size)⟩
end Go.Proofs.YtfiekhephkpdjaaGreatDoor

namespace Go.Proofs.YtfiekhephkpdjaaGreatDoor
open Go.RowKit Go.Shelf
set_option maxRecDepth 100000
set_option maxHeartbeats 1000000

theorem heap_setCells_same (g : Nat) (t : TypeId) : ∀ (vs : List Value) (o : Nat) (w : World) (cs : Array Value),w.heap[g]? = some (.cells cs t (0,0)) → ∃ cur,(w.setCells g o vs).heap[g]? = some (.cells cur t (0,0)) ∧ cur.size = cs.size
 | [],_,w,cs,h => ⟨cs,h,rfl⟩
 | v :: r,o,w,cs,h => by
  have h1 := heap_setCell_same w g o cs t v h
  obtain ⟨cur,h2,h3⟩ := heap_setCells_same g t r (o + 1) (w.setCell ⟨g,o,none⟩ v) _ h1
  exact ⟨cur,h2,by rw [h3]; simp⟩
structure OwB {α : Type} (base : Nat) (e : TypeId) (k : Nat) (f : α → List Value) (W : World) (g cap : Nat) (L : List α) : Prop where
 blk : ∃ cur,W.heap[g]? = some (.cells cur e (0,0)) ∧ cur.size = cap * k
 bg : base ≤ g
 len : L.length ≤ cap
 cm : cap ≤ maxLen
 rb : RB k f W g L
section
variable {α : Type} {base : Nat} {e : TypeId} {k : Nat} {f : α → List Value} {W W' : World} {g cap : Nat} {L : List α}
theorem OwB.row (hf : ∀ a,(f a).length = k) (h : OwB base e k f W g cap L) : W.ownsRow base e k (.slice (some ⟨g,0,none⟩) L.length cap) L.length (L.flatMap f) := by
 obtain ⟨cur,h1,h2⟩ := h.blk
 refine ⟨fm_len hf L,.inr ⟨g,cap,cur,rfl,h.bg,h1,h.len,h.cm,h2,?_⟩⟩
 apply List.ext_getElem?
 intro j
 by_cases hj : j < L.length * k
 ·have hk : 0 < k := Nat.pos_of_ne_zero (fun e => by subst e; simp at hj)
  have hd : j / k < L.length := Nat.div_lt_of_lt_mul (by rw [Nat.mul_comm]; exact hj)
  have hm : j % k < k := Nat.mod_lt _ hk
  have he : j / k * k + j % k = j := by rw [Nat.mul_comm]; exact Nat.div_add_mod j k
  obtain ⟨u,hu⟩ : ∃ u,(f L[j / k])[j % k]? = some u := ⟨(f L[j / k])[j % k]'(by rw [hf]; exact hm),List.getElem?_eq_getElem _⟩
  have h3 := (h.rb.all (j / k) hd (j % k) u hu).1
  have h4 := fm_get hf L hd (j % k) hm
  rw [he] at h3 h4
  rw [h4,hu,List.getElem?_take_of_lt hj]
  rw [Lib.cell_of_heap h1] at h3
  simpa using h3
 ·rw [List.getElem?_eq_none (by rw [List.length_take]; omega),List.getElem?_eq_none (by rw [fm_len hf]; omega)]
theorem OwB.of_row (hf : ∀ a,(f a).length = k) {v : Value} (h : W.ownsRow base e k v L.length (L.flatMap f)) (hL : 0 < L.length) : ∃ g cap,v = .slice (some ⟨g,0,none⟩) L.length cap ∧ OwB base e k f W g cap L := by
 obtain ⟨g0,c0,hv0,-,-,hrb⟩ := row_rb hf h hL
 rcases h.2 with ⟨_,hn⟩ | ⟨g,cap,cur,rfl,hb,hg,hnc,hcm,hcs,htk⟩
 ·omega
 ·injection hv0 with e1 e2 e3
  injection e1 with e1
  injection e1 with e1
  subst e1
  exact ⟨g,cap,rfl,⟨cur,hg,hcs⟩,hb,hnc,hcm,hrb⟩
theorem OwB.turns {X : Nat → Prop} (h : OwB base e k f W g cap L) (ht : Turns X W W') (hX : ¬ X g) : OwB base e k f W' g cap L := by
 obtain ⟨cur,h1,h2⟩ := h.blk
 exact ⟨⟨cur,(ht.block g h.rb.lt hX).trans h1,h2⟩,h.bg,h.len,h.cm,h.rb.turns ht hX⟩
theorem OwB.below (h : OwB base e k f W g cap L) (hb : Below W.heap.size W W') : OwB base e k f W' g cap L := h.turns (Turns.of_below hb) (fun h => h)
theorem OwB.set (hf : ∀ a,(f a).length = k) (h : OwB base e k f W g cap L) {p : Nat} (hp : p < L.length) (x : α) : OwB base e k f (W.setCells g (p * k) (f x)) g cap (L.set p x) := by
 obtain ⟨cur,h1,h2⟩ := h.blk
 obtain ⟨cur',h3,h4⟩ := heap_setCells_same g e (f x) (p * k) W cur h1
 exact ⟨⟨cur',h3,by rw [h4]; exact h2⟩,h.bg,by simpa using h.len,h.cm,h.rb.set hf hp x⟩
theorem RB.take (h : RB k f W g L) (i : Nat) : RB k f W g (L.take i) := ⟨h.lt,fun q hq j v hv => by
 have hq' : q < L.length := by rw [List.length_take] at hq; omega
 rw [List.getElem_take] at hv
 exact h.all q hq' j v hv⟩
theorem OwB.take (h : OwB base e k f W g cap L) (i : Nat) : OwB base e k f W g cap (L.take i) := ⟨h.blk,h.bg,by rw [List.length_take]; have := h.len; omega,h.cm,h.rb.take i⟩
theorem OwB.clear (hf : ∀ a,(f a).length = k) (h : OwB base e k f W g cap L) (i : Nat) (vs : List Value) : OwB base e k f (W.setCells g (i * k) vs) g cap (L.take i) := by
 obtain ⟨cur,h1,h2⟩ := h.blk
 obtain ⟨cur',h3,h4⟩ := heap_setCells_same g e vs (i * k) W cur h1
 refine ⟨⟨cur',h3,by rw [h4]; exact h2⟩,h.bg,(h.take i).len,h.cm,⟨Nat.lt_of_lt_of_le h.rb.lt (turns_setCells (X := fun _ => True) trivial _ _ _).size,fun q hq j v hv => ?_⟩⟩
 have hqi : q < i := by rw [List.length_take] at hq; omega
 have hj : j < k := by have := (List.getElem?_eq_some_iff.1 hv).1; rw [hf] at this; exact this
 have h5 := (h.take i).rb.all q hq j v hv
 rw [World.frozen?_setCells,World.cell?_setCells_out g vs (i * k) W ⟨g,q * k + j,none⟩ (fun _ _ => by
  left
  show q * k + j < i * k
  have : (q + 1) * k ≤ i * k := Nat.mul_le_mul_right k hqi
  rw [Nat.succ_mul] at this
  omega)]
 exact h5
end
theorem zero143 (w : World) : (zeroValue 236).run Tryz.prog w = .ok (.agg (reL re0).toArray) w := by kernel_rfl
theorem run_clear143 (w : World) (ty : TypeId) (b o n c : Nat) (hn : 0 < n) (ht : w.there b o (n * 4)) :
  (Builtin.clear_ #[233] ty #[.slice (some ⟨b,o,none⟩) n c]).run Tryz.prog w = .ok (.tuple #[]) (w.setCells b o (List.replicate (n * 4) (.int .i64 0))) := by
 have hzc : (Builtin.zeroCells (Value.agg (reL re0).toArray).cells n).toList = List.replicate (n * 4) (.int .i64 0) := by
  have hc : (Value.agg (reL re0).toArray).cells = #[.int .i64 0,.int .i64 0,.int .i64 0,.int .i64 0] := rfl
  rw [hc]
  simp [Builtin.zeroCells]
  apply List.ext_getElem
  ·simp
  ·intro i h1 h2
   have h4 : i % 4 = 0 ∨ i % 4 = 1 ∨ i % 4 = 2 ∨ i % 4 = 3 := by omega
   simp
   rcases h4 with h | h | h | h <;> (rw [h]; rfl)
 have hst := run_storeCells_cells (P := Tryz.prog) b o (List.replicate (n * 4) (.int .i64 0)) 0 w (by intro j hj; simpa using (ht j (by simpa using hj)).1) (by intro j hj; simpa using (ht j (by simpa using hj)).2) (by intro v hv'; rw [List.eq_of_mem_replicate hv']; rfl)
 simp only [Nat.add_zero] at hst
 have hz := zero143
 generalize Value.agg (reL re0).toArray = zv at *
 obtain ⟨m,rfl⟩ : ∃ m,n = m + 1 := ⟨n - 1,by omega⟩
 simp [Builtin.clear_,run_underlying Tryz.underlying233,hz,hzc,hst]
abbrev ResAt (W : World) (v : Value) (xs : List Re) : Prop := RecAt 4 reL W v xs
theorem res_at {W : World} {a : Option Addr} {n cap : Nat} {L : List Re} (h : ResAt W (.slice a n cap) L) {i : Nat} (hi : i < L.length) : ∃ b o,a = some ⟨b,o,none⟩ ∧ b < W.heap.size ∧ ∀ W',Below W.heap.size W W' → W'.cell? ⟨b,o + i * 4,none⟩ = some (.int .i64 L[i].s) ∧ W'.cell? ⟨b,o + i * 4 + 1,none⟩ = some (.int .i64 L[i].y.d) ∧ W'.cell? ⟨b,o + i * 4 + 2,none⟩ = some (.int .i64 L[i].y.n) ∧ W'.cell? ⟨b,o + i * 4 + 3,none⟩ = some (.int .i64 L[i].y.f) := by
 obtain ⟨a',cap',h1,h2⟩ := h.ex
 cases h1
 rcases h2 with h2 | ⟨b,o,rfl,hb,hc⟩
 ·subst h2; simp at hi
 ·exact ⟨b,o,rfl,hb,fun W' hW => ⟨(hW.cell hb).trans (hc i hi 0 _ rfl),(hW.cell hb).trans (hc i hi 1 _ rfl),(hW.cell hb).trans (hc i hi 2 _ rfl),(hW.cell hb).trans (hc i hi 3 _ rfl)⟩⟩
def IxE (P : Pl) (b n : Nat) (L : List Re) (x : Int) : Prop := (x = -1 ∧ ∀ k (hk : k < L.length),byB P L[k].s b n = false) ∨ ∃ k,∃ hk : k < L.length,x = (k : Nat) ∧ byB P L[k].s b n = true ∧ ∀ j (_ : j < k) (hj : j < L.length),byB P L[j].s b n = false
theorem rindex_any (l : List It) (P : Pl) (hO : PlOk l P) (x1 x2 x3 b n : Nat) (v : Value) (L : List Re) (hL : L.length ≤ 9000) (hr : ∀ x ∈ L,x.s < P.sts.length) (hb : b < P.sts.length) (hn : n < P.wds.length) (w : World) (hC : ClS P x1 x2 x3 b n w) (hV : ResAt w v L) : Calls Tryz.prog 173 #[v,.func (.func 139) #[] #[.pointer (some ⟨x1,0,none⟩),.pointer (some ⟨x2,0,none⟩),.pointer (some ⟨x3,0,none⟩)]] w fun e w' => (∃ x,e = .returned (.int .i64 x) ∧ IxE P b n L x) ∧ Below w.heap.size w w' := by
 obtain ⟨a,cp,rfl,-⟩ := hV.ex
 have h9 : (L.length : Int) ≤ 9000 := by omega
 have hat : Hid (∀ i (hi : i < L.length),∃ g o,a = some ⟨g,o,none⟩ ∧ g < w.heap.size ∧ ∀ W',Below w.heap.size w W' → W'.cell? ⟨g,o + i * 4,none⟩ = some (.int .i64 L[i].s) ∧ W'.cell? ⟨g,o + i * 4 + 1,none⟩ = some (.int .i64 L[i].y.d) ∧ W'.cell? ⟨g,o + i * 4 + 2,none⟩ = some (.int .i64 L[i].y.n) ∧ W'.cell? ⟨g,o + i * 4 + 3,none⟩ = some (.int .i64 L[i].y.f)) := fun i hi => res_at hV hi
 have hcl : Hid (∀ i (hi : i < L.length) W,Below w.heap.size w W → Calls Tryz.prog 139 #[.agg #[.int .i64 L[i].s,.int .i64 L[i].y.d,.int .i64 L[i].y.n,.int .i64 L[i].y.f],.pointer (some ⟨x1,0,none⟩),.pointer (some ⟨x2,0,none⟩),.pointer (some ⟨x3,0,none⟩)] W fun e w' => e = .returned (.bool (byB P L[i].s b n)) ∧ Below W.heap.size W w') := fun i hi W hW => level1_any l P hO x1 x2 x3 b n L[i] (hr _ (List.getElem_mem hi)) hb hn W (hC.below hW)
 have hno : Hid ((∀ k (hk : k < L.length),byB P L[k].s b n = false) → IxE P b n L (-1)) := fun h => .inl ⟨rfl,h⟩
 have hyes : Hid (∀ k (hk : k < L.length),byB P L[k].s b n = true → (∀ j (_ : j < k) (hj : j < L.length),byB P L[j].s b n = false) → IxE P b n L (k : Nat)) := fun k hk h1 h2 => .inr ⟨k,hk,rfl,h1,h2⟩
 clear hV hC hr
 go_enter Tryz.func173,Tryz.ntmps173
 go_wp2_with fail
 go_loopw [8] (fun i wr => ∃ k : Nat,k ≤ L.length ∧ i = .int .i64 k ∧ Below w.heap.size w wr ∧ Hid (∀ j (_ : j < k) (hj : j < L.length),byB P L[j].s b n = false)) (fun i _ => L.length - (intOf i).toNat)
 case atStart => exact ⟨0,by omega,rfl,Below.refl _ _,fun j hj => by omega⟩
 case round =>
  obtain ⟨k,hk,rfl,hbw,hall⟩ := hrel
  by_cases hlt : k < L.length
  ·obtain ⟨g,o,rfl,hg,hce⟩ := hat.out k hlt
   obtain ⟨d0,d1,d2,d3⟩ := hce wr hbw
   have hlt' : (k : Int) < L.length := by omega
   have hc1 : Hid (Calls Tryz.prog 139 #[.agg #[.int .i64 L[k].s,.int .i64 L[k].y.d,.int .i64 L[k].y.n,.int .i64 L[k].y.f],.pointer (some ⟨x1,0,none⟩),.pointer (some ⟨x2,0,none⟩),.pointer (some ⟨x3,0,none⟩)] wr fun e w' => e = .returned (.bool (byB P L[k].s b n)) ∧ Below wr.heap.size wr w') := hcl.out k hlt wr hbw
   have hy1 : Hid (byB P L[k].s b n = true → IxE P b n L (k : Nat)) := fun h => hyes.out k hlt h hall.out
   have hn1 : Hid (byB P L[k].s b n = false → ∀ j (_ : j < k + 1) (hj : j < L.length),byB P L[j].s b n = false) := fun h j hj hjl => by
    by_cases e : j < k
    ·exact hall.out j e hjl
    ·obtain rfl : j = k := by omega
     exact h
   clear hce hcl hno hyes hat hall
   generalize byB P L[k].s b n = q at *
   generalize L[k] = x at *
   cases q with
   | true =>
    have hy2 : Hid (IxE P b n L (k : Nat)) := hy1.out rfl
    clear hy1 hn1
    go_wp2_with (go_at_call 139; refine hc1.out.mono ?_; rintro e w2 ⟨rfl,hb2⟩)
    go_ret
    exact ⟨⟨_,rfl,hy2.out⟩,hbw.trans (hb2.mono hbw.size)⟩
   | false =>
    have hn2 : Hid (∀ j (_ : j < k + 1) (hj : j < L.length),byB P L[j].s b n = false) := hn1.out rfl
    clear hy1 hn1
    go_wp2_with (go_at_call 139; refine hc1.out.mono ?_; rintro e w2 ⟨rfl,hb2⟩)
    go_roundw
    case rel => exact ⟨k + 1,by omega,by simp,hbw.trans (hb2.mono hbw.size),hn2⟩
    case measure => simp [intOf]; omega
  ·have hge : ¬ (k : Int) < L.length := by omega
   have hn2 : Hid (IxE P b n L (-1)) := hno.out (fun j hj => hall.out j (by omega) hj)
   clear hcl hno hyes hat hall
   go_wp2_with fail
   go_ret
   exact ⟨⟨_,rfl,hn2.out⟩,hbw⟩
end Go.Proofs.YtfiekhephkpdjaaGreatDoor
