/-
  What is proved here: the drawn region of end of least.
-/
import Derived.Test.YtfndocmgonlhpaaGreatDoorG1
import Derived.Test.YtfndocmgonlhpaaGreatDoorG20
import Derived.Test.YtfndocmgonlhpaaGreatDoorG22
namespace Go.Proofs.YtfndocmgonlhpaaGreatDoor
open Go.RowKit Go.Shelf
set_option maxRecDepth 100000
set_option maxHeartbeats 4000000

structure PlM (P : Pl) (f : Nat × Nat → Option Wy) (M : Nat) (W : World) : Prop where
 p : PlS P W
 m : MapW W P.mb f M
theorem PlM.below {P : Pl} {f : Nat × Nat → Option Wy} {M : Nat} {W W' : World} (h : PlM P f M W) (hb : Below W.heap.size W W') : PlM P f M W' := ⟨h.p.below hb,h.m.below hb h.m.lt⟩
theorem PlM.drew {P : Pl} {f : Nat × Nat → Option Wy} {M : Nat} {W : World} (h : PlM P f M W) : PlM P f M W.drew := ⟨h.p.drew,h.m.same rfl⟩
theorem PlM.young {P : Pl} {f : Nat × Nat → Option Wy} {M : Nat} {W W' : World} {T : Nat} (h : PlM P f M W) (ht : Turns (fun k => k = T) W W') (hT : W.heap.size ≤ T ∨ (T ≠ P.B ∧ T ≠ P.gs ∧ T ≠ P.gw ∧ T ≠ P.mb)) : PlM P f M W' := by
 have h1 := h.p.lB
 have h2 := h.p.ls
 have h3 := h.p.lw
 have h4 := h.m.lt
 exact ⟨h.p.keep ht (by omega) (by omega) (by omega),h.m.turns ht (by omega)⟩
theorem set58_below {w wa : World} (hb : Below w.heap.size w wa) (x : Wy) : Below w.heap.size w (wa.setRow w.heap.size (wyL x).toArray) := hb.trans ((Turns.setRow (X := fun k => k = w.heap.size) _ rfl _).below hb.size (fun k hk => by omega))
def fr16 (v0 v1 v2 v3 v4 v5 v6 v7 v8 v9 xa xb xc xd xe xf xg xh xi xj xk xl xm xn xo xp xq xr xt xu xv xw xx xy xz xA xB xC xD xE xF xG xH xI : Value) : Act := { tmps := #[v0,v1,v2,v3,v4,v5,v6,v7,v8,v9,xa,xb,xc,xd,xe,xf,xg,xh,xi,xj,xk,xl,xm,xn,xo,xp,xq,xr,xt,xu,xv,xw,xx,xy,xz,xA,xB,xC,xD,xE,xF,xG,xH,xI],defers := [] }
def ops16_5_0 (ps : String) : Oper := ⟨some 17,.move (.tmp 0),98,ps,#[],none⟩
def ops16_5_1 (ps : String) : Oper := ⟨some 18,.nilCheck (.tmp 17),0,ps,#[⟨0,.data⟩],none⟩
def ops16_5_2 (ps : String) : Oper := ⟨some 19,.fieldAddr 56 (.tmp 18) 2,0,ps,#[⟨1,.data⟩],none⟩
def ops16_5_3 (ps : String) : Oper := ⟨some 20,.load 54 (.tmp 19),54,ps,#[⟨2,.data⟩],none⟩
def ops16_5_4 (ps : String) : Oper := ⟨some 21,.move (.tmp 0),98,ps,#[],none⟩
def ops16_5_5 (ps : String) : Oper := ⟨some 22,.nilCheck (.tmp 21),0,ps,#[⟨4,.data⟩],none⟩
def ops16_5_6 (ps : String) : Oper := ⟨some 23,.fieldAddr 56 (.tmp 22) 0,0,ps,#[⟨5,.data⟩],none⟩
def ops16_5_7 (ps : String) : Oper := ⟨some 24,.load 47 (.tmp 23),47,ps,#[⟨6,.data⟩],none⟩
def ops16_5_8 (ps : String) : Oper := ⟨some 25,.call ⟨.builtin .len,#[.tmp 24],#[47]⟩,3,ps,#[⟨7,.data⟩],none⟩
def ops16_5_9 (ps : String) : Oper := ⟨some 26,.binOp .sub 3 (.tmp 25) (.const (.int .i64 1)) 3,3,ps,#[⟨8,.data⟩],none⟩
def ops16_5_10 (ps : String) : Oper := ⟨some 27,.move (.tmp 5),3,ps,#[],none⟩
def ops16_5_11 (ps : String) : Oper := ⟨some 28,.build 100 #[(0,.tmp 26),(1,.tmp 27)],100,ps,#[⟨9,.data⟩,⟨10,.data⟩],none⟩
def ops16_5_12 (ps : String) : Oper := ⟨some 29,.lookup 54 (.tmp 20) (.tmp 28) true,59,ps,#[⟨3,.data⟩,⟨11,.data⟩],none⟩
def ops16_5_13 (ps : String) : Oper := ⟨some 16,.move (.tmp 29),59,ps,#[⟨12,.data⟩],none⟩
def ops16_5_14 (ps : String) : Oper := ⟨some 30,.extract (.tmp 16) 0,58,ps,#[⟨13,.data⟩],none⟩
def ops16_5_15 (ps : String) : Oper := ⟨some 31,.extract (.tmp 16) 1,4,ps,#[⟨13,.data⟩,⟨17,.gcOnly .lateStores⟩],none⟩
def ops16_5_16 (ps : String) : Oper := ⟨some 6,.alloc 58,0,ps,#[],none⟩
def ops16_5_17 (ps : String) : Oper := ⟨none,.store 58 (.tmp 6) (.tmp 30),0,ps,#[⟨16,.data⟩,⟨14,.data⟩,⟨0,.phase⟩,⟨1,.phase⟩,⟨2,.phase⟩,⟨3,.phase⟩,⟨4,.phase⟩,⟨5,.phase⟩,⟨6,.phase⟩,⟨7,.phase⟩,⟨8,.phase⟩,⟨9,.phase⟩,⟨10,.phase⟩,⟨11,.phase⟩,⟨12,.phase⟩,⟨13,.phase⟩,⟨14,.phase⟩,⟨15,.textOnly .lateStores⟩,⟨16,.phase⟩],none⟩
def ops16_5_18 (ps : String) : Oper := ⟨some 7,.assign (.tmp 31),4,ps,#[⟨15,.data⟩,⟨17,.chain⟩,⟨0,.phase⟩,⟨1,.phase⟩,⟨2,.phase⟩,⟨3,.phase⟩,⟨4,.phase⟩,⟨5,.phase⟩,⟨6,.phase⟩,⟨7,.phase⟩,⟨8,.phase⟩,⟨9,.phase⟩,⟨10,.phase⟩,⟨11,.phase⟩,⟨12,.phase⟩,⟨13,.phase⟩,⟨14,.phase⟩,⟨15,.phase⟩,⟨16,.phase⟩,⟨17,.phase⟩],none⟩
def ops16_5 (ps : String) : Array Oper := #[ops16_5_0 ps,ops16_5_1 ps,ops16_5_2 ps,ops16_5_3 ps,ops16_5_4 ps,ops16_5_5 ps,ops16_5_6 ps,ops16_5_7 ps,ops16_5_8 ps,ops16_5_9 ps,ops16_5_10 ps,ops16_5_11 ps,ops16_5_12 ps,ops16_5_13 ps,ops16_5_14 ps,ops16_5_15 ps,ops16_5_16 ps,ops16_5_17 ps,ops16_5_18 ps]

theorem en_r5 (Q : Exit → Act → World → Prop) (hQ : ∀ c x (n : Nat) v w,Q (.panic c) (x.put (some n) v) w → Q (.panic c) x w) (id : Nat) (ps : String) {v1 v2 v3 v4 v6 v7 v8 v9 xa xb xc xd xe xf xg xh xi xj xk xl xm xn xo xp xq xr xt xu xv xw xx xy xz xA xB xC xD xE xF xG xH xI : Value} (P : Pl) (f : Nat × Nat → Option Wy) (M m n : Nat) (w : World) (hS : PlM P f M (World.drew w))
  (hb : SpB (m,n)) (hm9 : (P.sts.length : Int) - 1 = (m : Nat)) (_hl1 : (1 : Int) ≤ P.sts.length) (hl2 : (P.sts.length : Int) ≤ 9000)
  (hq : ∀ w',Below w.heap.size w w' → w'.heap[w.heap.size]? = some (.cells (wyL ((f (m,n)).getD wy0)).toArray 58 (0,0)) → Q .normal (fr16 (.pointer (some ⟨P.B,0,none⟩)) v1 v2 v3 v4 (.int .i64 (n : Nat)) (.pointer (some ⟨w.heap.size,0,none⟩)) (.bool (f (m,n)).isSome) v8 v9 xa xb xc xd xe xf (.tuple #[wyV ((f (m,n)).getD wy0),.bool (f (m,n)).isSome]) (.pointer (some ⟨P.B,0,none⟩)) (.pointer (some ⟨P.B,0,none⟩)) (.pointer (some ⟨P.B,2,none⟩)) (.map (some P.mb)) (.pointer (some ⟨P.B,0,none⟩)) (.pointer (some ⟨P.B,0,none⟩)) (.pointer (some ⟨P.B,0,none⟩)) (.slice (some ⟨P.gs,P.os,none⟩) P.sts.length P.cs) (.int .i64 (P.sts.length : Nat)) (.int .i64 (m : Nat)) (.int .i64 (n : Nat)) (spV (m,n)) (.tuple #[wyV ((f (m,n)).getD wy0),.bool (f (m,n)).isSome]) (wyV ((f (m,n)).getD wy0)) (.bool (f (m,n)).isSome) xx xy xz xA xB xC xD xE xF xG xH xI) w') :
  (Code.region id (ops16_5 ps) true).wp Tryz.prog Q (fr16 (.pointer (some ⟨P.B,0,none⟩)) v1 v2 v3 v4 (.int .i64 (n : Nat)) v6 v7 v8 v9 xa xb xc xd xe xf xg xh xi xj xk xl xm xn xo xp xq xr xt xu xv xw xx xy xz xA xB xC xD xE xF xG xH xI) w := by
 refine wp_region_held (S := PlM P f M) (by kernel_rfl) ?_
 change wpAnyH _ _ _ _ _ 19 _ _ (World.drew w)
 refine take_r 0 ⟨some 17,.move (.tmp 0),98,ps,#[],none⟩ (.pointer (some ⟨P.B,0,none⟩)) hQ (fun w _ => by kernel_rfl) hS ?_
 refine take_k 1 (ops16_5_1 ps) (.pointer (some ⟨P.B,0,none⟩)) (fr16 (.pointer (some ⟨P.B,0,none⟩)) v1 v2 v3 v4 (.int .i64 (n : Nat)) v6 v7 v8 v9 xa xb xc xd xe xf xg (.pointer (some ⟨P.B,0,none⟩)) (.pointer (some ⟨P.B,0,none⟩)) xj xk xl xm xn xo xp xq xr xt xu xv xw xx xy xz xA xB xC xD xE xF xG xH xI) hQ (fun w hS => by unfold fr16 ops16_5_1; go_simp) hS ?_
 refine take_r 2 ⟨some 19,.fieldAddr 56 (.tmp 18) 2,0,ps,#[⟨1,.data⟩],none⟩ (.pointer (some ⟨P.B,2,none⟩)) hQ (fun w hS => by unfold fr16; go_simp) hS ?_
 refine take_k 3 (ops16_5_3 ps) (.map (some P.mb)) (fr16 (.pointer (some ⟨P.B,0,none⟩)) v1 v2 v3 v4 (.int .i64 (n : Nat)) v6 v7 v8 v9 xa xb xc xd xe xf xg (.pointer (some ⟨P.B,0,none⟩)) (.pointer (some ⟨P.B,0,none⟩)) (.pointer (some ⟨P.B,2,none⟩)) (.map (some P.mb)) xl xm xn xo xp xq xr xt xu xv xw xx xy xz xA xB xC xD xE xF xG xH xI) hQ (fun w hS => by have e := hS.p.c2; unfold fr16 ops16_5_3; go_simp) hS ?_
 refine take_r 4 ⟨some 21,.move (.tmp 0),98,ps,#[],none⟩ (.pointer (some ⟨P.B,0,none⟩)) hQ (fun w _ => by kernel_rfl) hS ?_
 refine take_k 5 (ops16_5_5 ps) (.pointer (some ⟨P.B,0,none⟩)) (fr16 (.pointer (some ⟨P.B,0,none⟩)) v1 v2 v3 v4 (.int .i64 (n : Nat)) v6 v7 v8 v9 xa xb xc xd xe xf xg (.pointer (some ⟨P.B,0,none⟩)) (.pointer (some ⟨P.B,0,none⟩)) (.pointer (some ⟨P.B,2,none⟩)) (.map (some P.mb)) (.pointer (some ⟨P.B,0,none⟩)) (.pointer (some ⟨P.B,0,none⟩)) xn xo xp xq xr xt xu xv xw xx xy xz xA xB xC xD xE xF xG xH xI) hQ (fun w hS => by unfold fr16 ops16_5_5; go_simp) hS ?_
 refine take_r 6 ⟨some 23,.fieldAddr 56 (.tmp 22) 0,0,ps,#[⟨5,.data⟩],none⟩ (.pointer (some ⟨P.B,0,none⟩)) hQ (fun w hS => by unfold fr16; go_simp) hS ?_
 refine take_k 7 (ops16_5_7 ps) (.slice (some ⟨P.gs,P.os,none⟩) P.sts.length P.cs) (fr16 (.pointer (some ⟨P.B,0,none⟩)) v1 v2 v3 v4 (.int .i64 (n : Nat)) v6 v7 v8 v9 xa xb xc xd xe xf xg (.pointer (some ⟨P.B,0,none⟩)) (.pointer (some ⟨P.B,0,none⟩)) (.pointer (some ⟨P.B,2,none⟩)) (.map (some P.mb)) (.pointer (some ⟨P.B,0,none⟩)) (.pointer (some ⟨P.B,0,none⟩)) (.pointer (some ⟨P.B,0,none⟩)) (.slice (some ⟨P.gs,P.os,none⟩) P.sts.length P.cs) xp xq xr xt xu xv xw xx xy xz xA xB xC xD xE xF xG xH xI) hQ (fun w hS => by have e := hS.p.c0; unfold fr16 ops16_5_7; go_simp) hS ?_
 refine take_r 8 ⟨some 25,.call ⟨.builtin .len,#[.tmp 24],#[47]⟩,3,ps,#[⟨7,.data⟩],none⟩ (.int .i64 (P.sts.length : Nat)) hQ (fun w hS => by unfold fr16; go_simp) hS ?_
 refine take_k 9 (ops16_5_9 ps) (.int .i64 (m : Nat)) (fr16 (.pointer (some ⟨P.B,0,none⟩)) v1 v2 v3 v4 (.int .i64 (n : Nat)) v6 v7 v8 v9 xa xb xc xd xe xf xg (.pointer (some ⟨P.B,0,none⟩)) (.pointer (some ⟨P.B,0,none⟩)) (.pointer (some ⟨P.B,2,none⟩)) (.map (some P.mb)) (.pointer (some ⟨P.B,0,none⟩)) (.pointer (some ⟨P.B,0,none⟩)) (.pointer (some ⟨P.B,0,none⟩)) (.slice (some ⟨P.gs,P.os,none⟩) P.sts.length P.cs) (.int .i64 (P.sts.length : Nat)) (.int .i64 (m : Nat)) xr xt xu xv xw xx xy xz xA xB xC xD xE xF xG xH xI) hQ (fun w hS => by unfold fr16 ops16_5_9; go_simp; try exact wrap_i (by omega) (by omega)) hS ?_
 refine take_r 10 ⟨some 27,.move (.tmp 5),3,ps,#[],none⟩ (.int .i64 (n : Nat)) hQ (fun w _ => by kernel_rfl) hS ?_
 refine take_k 11 (ops16_5_11 ps) (spV (m,n)) (fr16 (.pointer (some ⟨P.B,0,none⟩)) v1 v2 v3 v4 (.int .i64 (n : Nat)) v6 v7 v8 v9 xa xb xc xd xe xf xg (.pointer (some ⟨P.B,0,none⟩)) (.pointer (some ⟨P.B,0,none⟩)) (.pointer (some ⟨P.B,2,none⟩)) (.map (some P.mb)) (.pointer (some ⟨P.B,0,none⟩)) (.pointer (some ⟨P.B,0,none⟩)) (.pointer (some ⟨P.B,0,none⟩)) (.slice (some ⟨P.gs,P.os,none⟩) P.sts.length P.cs) (.int .i64 (P.sts.length : Nat)) (.int .i64 (m : Nat)) (.int .i64 (n : Nat)) (spV (m,n)) xu xv xw xx xy xz xA xB xC xD xE xF xG xH xI) hQ (fun w hS => by unfold fr16 ops16_5_11; go_simp; try rfl) hS ?_
 refine take_r 12 ⟨some 29,.lookup 54 (.tmp 20) (.tmp 28) true,59,ps,#[⟨3,.data⟩,⟨11,.data⟩],none⟩ (.tuple #[wyV ((f (m,n)).getD wy0),.bool (f (m,n)).isSome]) hQ (fun w hS => by have hr := hS.m.look_ok (m,n) hb; unfold fr16; go_simp) hS ?_
 refine take_k 13 (ops16_5_13 ps) (.tuple #[wyV ((f (m,n)).getD wy0),.bool (f (m,n)).isSome]) (fr16 (.pointer (some ⟨P.B,0,none⟩)) v1 v2 v3 v4 (.int .i64 (n : Nat)) v6 v7 v8 v9 xa xb xc xd xe xf (.tuple #[wyV ((f (m,n)).getD wy0),.bool (f (m,n)).isSome]) (.pointer (some ⟨P.B,0,none⟩)) (.pointer (some ⟨P.B,0,none⟩)) (.pointer (some ⟨P.B,2,none⟩)) (.map (some P.mb)) (.pointer (some ⟨P.B,0,none⟩)) (.pointer (some ⟨P.B,0,none⟩)) (.pointer (some ⟨P.B,0,none⟩)) (.slice (some ⟨P.gs,P.os,none⟩) P.sts.length P.cs) (.int .i64 (P.sts.length : Nat)) (.int .i64 (m : Nat)) (.int .i64 (n : Nat)) (spV (m,n)) (.tuple #[wyV ((f (m,n)).getD wy0),.bool (f (m,n)).isSome]) xv xw xx xy xz xA xB xC xD xE xF xG xH xI) hQ (fun w _ => by kernel_rfl) hS ?_
 refine take_r 14 ⟨some 30,.extract (.tmp 16) 0,58,ps,#[⟨13,.data⟩],none⟩ (wyV ((f (m,n)).getD wy0)) hQ (fun w _ => by kernel_rfl) hS ?_
 refine take_k 15 (ops16_5_15 ps) (.bool (f (m,n)).isSome) (fr16 (.pointer (some ⟨P.B,0,none⟩)) v1 v2 v3 v4 (.int .i64 (n : Nat)) v6 v7 v8 v9 xa xb xc xd xe xf (.tuple #[wyV ((f (m,n)).getD wy0),.bool (f (m,n)).isSome]) (.pointer (some ⟨P.B,0,none⟩)) (.pointer (some ⟨P.B,0,none⟩)) (.pointer (some ⟨P.B,2,none⟩)) (.map (some P.mb)) (.pointer (some ⟨P.B,0,none⟩)) (.pointer (some ⟨P.B,0,none⟩)) (.pointer (some ⟨P.B,0,none⟩)) (.slice (some ⟨P.gs,P.os,none⟩) P.sts.length P.cs) (.int .i64 (P.sts.length : Nat)) (.int .i64 (m : Nat)) (.int .i64 (n : Nat)) (spV (m,n)) (.tuple #[wyV ((f (m,n)).getD wy0),.bool (f (m,n)).isSome]) (wyV ((f (m,n)).getD wy0)) (.bool (f (m,n)).isSome) xx xy xz xA xB xC xD xE xF xG xH xI) hQ (fun w _ => by kernel_rfl) hS ?_
 refine want_k 16 (ops16_5_16 ps) fun K hK => ?_
 unfold fr16 ops16_5_16
 go_simp
 have hb1 : Below w.heap.size w (World.drew (w.alloc (.cells #[.int .i64 0,.int .i64 0,.int .i64 0] 58))) := ((Below.refl w.heap.size w).alloc (Nat.le_refl _) _).drew
 have hT : (World.drew (w.alloc (.cells #[.int .i64 0,.int .i64 0,.int .i64 0] 58))).heap[w.heap.size]? = some (.cells (wyL wy0).toArray 58 (0,0)) := World.alloc_heap_new w _
 have hS1 : PlM P f M (World.drew (w.alloc (.cells #[.int .i64 0,.int .i64 0,.int .i64 0] 58))) := hS.below ⟨hb1.1,hb1.2,hb1.3,hb1.4,hb1.5⟩
 generalize World.drew (w.alloc (.cells #[.int .i64 0,.int .i64 0,.int .i64 0] 58)) = wa at *
 refine hK _ _ hS1 (cast_h (fr16 (.pointer (some ⟨P.B,0,none⟩)) v1 v2 v3 v4 (.int .i64 (n : Nat)) (.pointer (some ⟨w.heap.size,0,none⟩)) v7 v8 v9 xa xb xc xd xe xf (.tuple #[wyV ((f (m,n)).getD wy0),.bool (f (m,n)).isSome]) (.pointer (some ⟨P.B,0,none⟩)) (.pointer (some ⟨P.B,0,none⟩)) (.pointer (some ⟨P.B,2,none⟩)) (.map (some P.mb)) (.pointer (some ⟨P.B,0,none⟩)) (.pointer (some ⟨P.B,0,none⟩)) (.pointer (some ⟨P.B,0,none⟩)) (.slice (some ⟨P.gs,P.os,none⟩) P.sts.length P.cs) (.int .i64 (P.sts.length : Nat)) (.int .i64 (m : Nat)) (.int .i64 (n : Nat)) (spV (m,n)) (.tuple #[wyV ((f (m,n)).getD wy0),.bool (f (m,n)).isSome]) (wyV ((f (m,n)).getD wy0)) (.bool (f (m,n)).isSome) xx xy xz xA xB xC xD xE xF xG xH xI) (by kernel_rfl) ?_)
 clear hK K
 refine want_k 17 (ops16_5_17 ps) fun K hK => ?_
 refine wp_store_row 58 _ _ (by unfold ops16_5_17; rfl) w.heap.size (wyL ((f (m,n)).getD wy0)).toArray rfl rfl 58 _ hT (info58 _) rfl (wyL_all _) ?_
 have hb2 := set58_below hb1 ((f (m,n)).getD wy0)
 have hT2 : (wa.setRow w.heap.size (wyL ((f (m,n)).getD wy0)).toArray).heap[w.heap.size]? = some (.cells (wyL ((f (m,n)).getD wy0)).toArray 58 (0,0)) := setRow_heap _ _ _ _ _ _ hT
 have hS2 : PlM P f M (wa.setRow w.heap.size (wyL ((f (m,n)).getD wy0)).toArray) := hS.below ⟨hb2.1,hb2.2,hb2.3,hb2.4,hb2.5⟩
 refine hK _ _ hS2 (cast_h (fr16 (.pointer (some ⟨P.B,0,none⟩)) v1 v2 v3 v4 (.int .i64 (n : Nat)) (.pointer (some ⟨w.heap.size,0,none⟩)) v7 v8 v9 xa xb xc xd xe xf (.tuple #[wyV ((f (m,n)).getD wy0),.bool (f (m,n)).isSome]) (.pointer (some ⟨P.B,0,none⟩)) (.pointer (some ⟨P.B,0,none⟩)) (.pointer (some ⟨P.B,2,none⟩)) (.map (some P.mb)) (.pointer (some ⟨P.B,0,none⟩)) (.pointer (some ⟨P.B,0,none⟩)) (.pointer (some ⟨P.B,0,none⟩)) (.slice (some ⟨P.gs,P.os,none⟩) P.sts.length P.cs) (.int .i64 (P.sts.length : Nat)) (.int .i64 (m : Nat)) (.int .i64 (n : Nat)) (spV (m,n)) (.tuple #[wyV ((f (m,n)).getD wy0),.bool (f (m,n)).isSome]) (wyV ((f (m,n)).getD wy0)) (.bool (f (m,n)).isSome) xx xy xz xA xB xC xD xE xF xG xH xI) (by kernel_rfl) ?_)
 clear hK K
 refine take_r 18 ⟨some 7,.assign (.tmp 31),4,ps,#[⟨15,.data⟩,⟨17,.chain⟩,⟨0,.phase⟩,⟨1,.phase⟩,⟨2,.phase⟩,⟨3,.phase⟩,⟨4,.phase⟩,⟨5,.phase⟩,⟨6,.phase⟩,⟨7,.phase⟩,⟨8,.phase⟩,⟨9,.phase⟩,⟨10,.phase⟩,⟨11,.phase⟩,⟨12,.phase⟩,⟨13,.phase⟩,⟨14,.phase⟩,⟨15,.phase⟩,⟨16,.phase⟩,⟨17,.phase⟩],none⟩ (.bool (f (m,n)).isSome) hQ (fun w _ => by kernel_rfl) hS2 ?_
 exact wpAnyH_done (by kernel_rfl) (hq _ hb2 hT2) _

theorem el102 : ElOk 102 58 3 24 := ElOk.of Tryz.underlying102 (by kernel_rfl)
theorem build102 (x : Wy) (W : World) : (Instr.buildSlice 102 1 #[(0,.agg (wyL x).toArray)]).run Tryz.prog W = .ok (.slice (some ⟨W.heap.size,0,none⟩) 1 1) (W.alloc (.cells (wyL x).toArray 58)) := by
 obtain ⟨a,n,g⟩ := x
 kernel_rfl
theorem wpList_build102 {ops : Array Oper} {rest : List Oper} {oi : Oper} {a : Act} {w : World} {Q : Exit → Act → World → Prop} (hgd : oi.guard = none) (y : Operand) (ho : oi.op = .buildSlice 102 1 #[(0,y)]) (p : Wy) (hy : a.eval y = .agg (wyL p).toArray)
  (h : wpList Tryz.prog ops Q rest (a.put oi.dst (.slice (some ⟨w.heap.size,0,none⟩) 1 1)) (w.alloc (.cells (wyL p).toArray 58))) : wpList Tryz.prog ops Q (oi :: rest) a w :=
 wpList_plain hgd fun K hK => by
  have hr := build102 p w
  unfold Oper.wp execOp
  simp only [ho,List.map_toArray,List.map_cons,List.map_nil,hy,Sem.run_bind,Sem.run_pure,Result.andThen_ok,hr]
  exact hK _ _ h
def enL (f : Nat × Nat → Option Wy) (m : Nat) : Nat → List Wy
 | 0 => []
 | n + 1 => match f (m,n) with
  | none => enL f m n
  | some x => enL f m n ++ [x]
theorem enL_len (f : Nat × Nat → Option Wy) (m : Nat) : ∀ n,(enL f m n).length ≤ n
 | 0 => Nat.le_refl _
 | n + 1 => by
  unfold enL
  have := enL_len f m n
  split
  ·omega
  ·rw [List.length_append,List.length_singleton]; omega
def endO (P : Pl) (f : Nat × Nat → Option Wy) : Option Wy := if (enL f (P.sts.length - 1) P.wds.length).length = 0 then none else some (minW (enL f (P.sts.length - 1) P.wds.length))
structure EnI (z : World) (P : Pl) (f : Nat × Nat → Option Wy) (M : Nat) (v : Value) (qs : List Wy) (W : World) : Prop where
 low : Below z.heap.size z W
 r0 : W.heap[z.heap.size]? = some (.cells (wyL wy0).toArray 58 (0,0))
 row : W.ownsRow (z.heap.size + 1) 58 3 v qs.length (qs.flatMap wyL)
theorem EnI.next {z : World} {P : Pl} {f : Nat × Nat → Option Wy} {M : Nat} {v : Value} {qs : List Wy} {W W' : World} (h : EnI z P f M v qs W) (hb : Below W.heap.size W W') : EnI z P f M v qs W' :=
 ⟨h.low.trans (hb.mono h.low.size),(hb.block _ (Array.getElem?_eq_some_iff.1 h.r0).1).trans h.r0,ownsRow_below h.row hb⟩
theorem EnI.lt {z : World} {P : Pl} {f : Nat × Nat → Option Wy} {M : Nat} {v : Value} {qs : List Wy} {W : World} (h : EnI z P f M v qs W) : z.heap.size + 1 ≤ W.heap.size := (Array.getElem?_eq_some_iff.1 h.r0).1
theorem EnI.app {z : World} {P : Pl} {f : Nat × Nat → Option Wy} {M : Nat} {v v' : Value} {qs qs' : List Wy} {W W' : World} (h : EnI z P f M v qs W) (hr : W'.ownsRow (z.heap.size + 1) 58 3 v' qs'.length (qs'.flatMap wyL)) (hb : Below (z.heap.size + 1) W W') : EnI z P f M v' qs' W' :=
 ⟨h.low.trans (hb.mono (by omega)),(hb.block _ (by omega)).trans h.r0,hr⟩
theorem pend_any (P : Pl) (f : Nat × Nat → Option Wy) (M : Nat) (hs : 0 < P.sts.length ∧ P.sts.length ≤ 8193) (hw : 0 < P.wds.length ∧ P.wds.length ≤ 257) (w : World) (hP : PlM P f M w) : Calls Tryz.prog 16 #[.pointer (some ⟨P.B,0,none⟩)] w fun e w' => e = .returned (.tuple #[.agg (wyL ((endO P f).getD wy0)).toArray,.bool (endO P f).isSome]) ∧ Below w.heap.size w w' := by
 have hw2 : (P.wds.length : Int) ≤ 257 := by omega
 have hl1 : (1 : Int) ≤ P.sts.length := by omega
 have hl2 : (P.sts.length : Int) ≤ 9000 := by omega
 have hm9 : Hid ((P.sts.length : Int) - 1 = ((P.sts.length - 1 : Nat) : Int)) := by show _ = _; omega
 have hb0 := (Below.refl w.heap.size w).alloc (Nat.le_refl _) (.cells #[.int .i64 0,.int .i64 0,.int .i64 0] 58)
 have hI0 : Hid (EnI w P f M (.slice none 0 0) [] (w.alloc (.cells #[.int .i64 0,.int .i64 0,.int .i64 0] 58))) := ⟨hb0,World.alloc_heap_new w _,World.ownsRow_nil _ _ _ _⟩
 have hPh : Hid (∀ W,Below w.heap.size w W → PlM P f M W) := fun W hW => hP.below hW
 have c1 : (w.alloc (.cells #[.int .i64 0,.int .i64 0,.int .i64 0] 58)).cell? ⟨P.B,1,none⟩ = some (.slice (some ⟨P.gw,P.ow,none⟩) P.wds.length P.cw) := (hP.below hb0).p.c1
 have hbd : Hid (∀ n,n < P.wds.length → SpB (P.sts.length - 1,n)) := fun n hn => ⟨by show P.sts.length - 1 ≤ _; omega,by show n ≤ _; omega⟩
 have hE : Hid (endO P f = if (enL f (P.sts.length - 1) P.wds.length).length = 0 then none else some (minW (enL f (P.sts.length - 1) P.wds.length))) := rfl
 clear hP hb0
 generalize endO P f = E at *
 generalize P.sts.length - 1 = m at *
 go_enter Tryz.func16,Tryz.ntmps16
 go_wp2_with fail
 generalize w.alloc (.cells #[.int .i64 0,.int .i64 0,.int .i64 0] 58) = wz at *
 go_wp2_with fail
 clear c1
 go_loopw [4,13] (fun v4 xd wr => ∃ (n : Nat) (va : Option Addr) (vc : Nat),n ≤ P.wds.length ∧ xd = .int .i64 n ∧ v4 = .slice va (enL f m n).length vc ∧ Hid (EnI w P f M (.slice va (enL f m n).length vc) (enL f m n) wr)) (fun _ xd _ => P.wds.length - (intOf xd).toNat)
 case atStart => exact ⟨0,none,0,by omega,rfl,rfl,hI0⟩
 case round =>
  obtain ⟨n,va,vc,hn,rfl,rfl,hI⟩ := hrel
  clear hI0
  have hlow : Hid (Below w.heap.size w wr) := hI.out.low
  by_cases hlt : n < P.wds.length
  ·have hlt' : (n : Int) < P.wds.length := by omega
   have hS0 : Hid (PlM P f M (World.drew wr)) := (hPh.out wr hlow.out).drew
   have hsb := hbd.out n hlt
   have hqn : Hid ((enL f m n).length ≤ 9000) := by have := enL_len f m n; show _ ≤ _; omega
   go_wp2_with fail
   refine en_r5 _ (fun _ _ _ _ _ h => h) _ _ P f M m n wr hS0.out hsb hm9.out hl1 hl2 ?_
   intro w2 hb2 hT2
   have hI2 : Hid (EnI w P f M (.slice va (enL f m n).length vc) (enL f m n) w2) := hI.out.next hb2
   clear hb2 hS0 hI hlow
   generalize wr.heap.size = T at *
   cases hf : f (m,n) with
   | none =>
    have e : enL f m (n + 1) = enL f m n := by show (match f (m,n) with | none => _ | some x => _) = _; rw [hf]
    rw [hf] at hT2
    unfold fr16
    go_wp2_with fail
    exact ⟨⟨n + 1,va,vc,by omega,by simp,by rw [e],by rw [e]; exact hI2⟩,by simp [intOf]; omega⟩
   | some x =>
    have e : enL f m (n + 1) = enL f m n ++ [x] := by show (match f (m,n) with | none => _ | some x => _) = _; rw [hf]
    rw [hf] at hT2
    have hT3 : w2.heap[T]? = some (.cells (wyL x).toArray 58 (0,0)) := hT2
    have eh : Hid (enL f m (n + 1) = enL f m n ++ [x]) := e
    clear hT2 hf e
    unfold fr16
    go_wp2_with (first | (refine wpList_load_row rfl 58 _ rfl T rfl 58 _ (0,0) _ hT3 Tryz.underlying58 rfl (info58 _) ?_) | (refine wpList_build102 rfl _ rfl x rfl ?_) | (refine wpList_app1 (k := 3) (f := wyL) (w0 := w2) (bytes := 24) rfl el102 wyL_len wyL_one (by omega) (by omega) _ _ rfl (w.heap.size + 1) (.slice va (enL f m n).length vc) (enL f m n) x rfl hI2.out.row hI2.out.lt hqn.out rfl rfl ?_; intro v' w6 hr6 hb6; obtain ⟨g6,cap6,rfl,-,-,-⟩ := row_rb wyL_len hr6 (by simp); have hI6 : Hid (EnI w P f M (.slice (some ⟨g6,0,none⟩) (enL f m n ++ [x]).length cap6) (enL f m n ++ [x]) w6) := hI2.out.app hr6 hb6; clear hr6 hb6 hI2))
    exact ⟨⟨n + 1,some ⟨g6,0,none⟩,cap6,by omega,by simp,by rw [eh.out,List.length_append]; rfl,by rw [eh.out]; exact hI6⟩,by simp [intOf]; omega⟩
  ·have hge : ¬ (n : Int) < P.wds.length := by omega
   obtain rfl : n = P.wds.length := by omega
   have r0 := hI.out.r0
   have hWy := rec_of_row wyL_len (rs := enL f m P.wds.length) rfl hI.out.row
   have hmn : Hid (0 < (enL f m P.wds.length).length → Calls Tryz.prog 35 #[.slice va (enL f m P.wds.length).length vc,.func (.func 36) #[] #[]] wr fun e w' => e = .returned (.agg (wyL (minW (enL f m P.wds.length))).toArray) ∧ Below wr.heap.size wr w') := fun h => minFunc_any _ _ ⟨h,by have := enL_len f m P.wds.length; omega⟩ wr hWy
   have hr1 : Hid (∀ W,Below wr.heap.size wr W → W.heap[w.heap.size]? = some (.cells (wyL wy0).toArray 58 (0,0))) := fun W hW => (hI.out.next hW).r0
   have hlen9 : ((enL f m P.wds.length).length : Int) ≤ 257 := by have := enL_len f m P.wds.length; omega
   clear hI hWy hbd hPh
   generalize hLL : (enL f m P.wds.length).length = LL at *
   by_cases hz : LL = 0
   ·have hE2 : Hid (E = none) := by show _ = _; rw [hE.out,if_pos (by first | exact hz | omega)]
    have hz' : ((LL : Int) == 0) = true := by rw [hz]; rfl
    clear hE hmn hLL hz
    go_wp2_with (refine wpList_store_row rfl 58 _ _ rfl w.heap.size (wyL wy0).toArray rfl rfl 58 _ r0 (info58 _) rfl (wyL_all _) ?_)
    exact bodyPost_ret (results_cell_row2 rfl _ _ w.heap.size 58 _ (0,0) _ rfl (setRow_heap _ _ _ _ _ _ r0) Tryz.underlying58 rfl (info58 _)) rfl ⟨by rw [hE2.out]; rfl,hlow.out.trans ((Turns.setRow (X := fun k => k = w.heap.size) _ rfl _).below hlow.out.size (fun k hk => by omega))⟩
   ·have hE2 : Hid (E = some (minW (enL f m P.wds.length))) := by show _ = _; rw [hE.out,if_neg (by first | exact hz | omega)]
    have hz' : ((LL : Int) == 0) = false := by rw [beq_eq_false_iff_ne]; omega
    have hmn2 := hmn.out (by omega)
    clear hE hmn hLL hz
    generalize minW (enL f m P.wds.length) = mm at *
    go_wp2_with (first | (go_at_call 35; refine hmn2.mono ?_; rintro e w3 ⟨rfl,hb3⟩; have r0 := hr1.out w3 hb3; have hlow3 := hlow.out.trans (hb3.mono hlow.out.size); clear hb3 hr1) | (refine wpList_store_row rfl 58 _ _ rfl w.heap.size (wyL mm).toArray rfl rfl 58 _ r0 (info58 _) rfl (wyL_all _) ?_))
    exact bodyPost_ret (results_cell_row2 rfl _ _ w.heap.size 58 _ (0,0) _ rfl (setRow_heap _ _ _ _ _ _ r0) Tryz.underlying58 rfl (info58 _)) rfl ⟨by rw [hE2.out]; rfl,hlow3.trans ((Turns.setRow (X := fun k => k = w.heap.size) _ rfl _).below hlow3.size (fun k hk => by omega))⟩
end Go.Proofs.YtfndocmgonlhpaaGreatDoor
