/-
  What is proved here: what the document's Split answers.
  What is proved here: what the document's Split and Height answer.
  What is proved here: NoteSplits answers true: which lines stand in a height.
  What is proved here: how lists of masses and paragraphs that are handed in look.
-/
import Derived.Test.YtlgcnbomfhmjiaaGreatDoorS31
import Derived.Test.YtlgcnbomfhmjiaaGreatDoorS1
import Derived.Test.YtlgcnbomfhmjiaaGreatDoorRows
import Derived.Shelf.Abstract
import Derived.WalkKit
import Derived.WalkSpells
import Derived.LoopN
import Derived.Lib.Bytealg
import Derived.Test.YtlgcnbomfhmjiaaGreatDoorS5
import Derived.OrdersHeld
import Derived.BigQuiet
import Derived.RangeFuncNested
import Derived.Deep.Draws
import Derived.OwnWalkIn
import Derived.RangeFuncBox
import Derived.Lib.AppendStr
import Derived.RangeFuncBound
import Derived.RangeFuncCalls
import Derived.RangeFuncLeaves
import Derived.Shelf.RegionOpen
import Derived.TacticsInMore
import Derived.LoopNIn
import Derived.LoopIn
import Derived.Lib.Builder
import Derived.Maps.AppendAt
import Derived.BigRegion
import Derived.Deep.QuietTactic
import Derived.ProofKit
import Derived.OpenShut
import Derived.ChangeOld
import Derived.Below
import Derived.Deep.Slices
import Derived.SizedLaws
namespace Go.Proofs.YtlgcnbomfhmjiaaGreatDoor
open Go.RowKit Go.Shelf
set_option maxRecDepth 100000
set_option maxHeartbeats 4000000

theorem build47 (W : World) : (Instr.buildSlice 23 0 #[]).run Tryz.prog W = .ok (.slice (some ⟨W.heap.size,0,none⟩) 0 0) (W.alloc (.cells #[] 47)) := by kernel_rfl
theorem app_e {g : Nat} {z : World} {u : Value} {l : List Lx} (hg : z.heap[g]? = some (.cells #[] 47 (0,0))) (hu : LxsAt z u l) (hl : l.length ≤ 100000) : ∃ (a' : Option Addr) (c' : Nat) (z' : World),(Builtin.append_ #[23,23] 23 #[.slice (some ⟨g,0,none⟩) 0 0,u]).run Tryz.prog z = .ok (.slice a' l.length c') z' ∧ LxsAt z' (.slice a' l.length c') l ∧ Turns (fun k => k = g) z z' ∧ ∀ k,(Value.slice a' l.length c').ownBlock = some k → k = g ∨ z.heap.size ≤ k := by
 obtain ⟨hut,i,zz,hi,hz0,hz1,hz2,hz3⟩ := el47
 have hlt := (Array.getElem?_eq_some_iff.1 hg).1
 have hown : z.ownsRow g 47 7 (.slice (some ⟨g,0,none⟩) 0 0) 0 [] := ⟨by simp,.inr ⟨g,0,#[],rfl,Nat.le_refl _,hg,by omega,by unfold maxLen; omega,by simp,by simp⟩⟩
 have hs := rec_srcs lxL_len lxL_one (by decide) hu
 obtain ⟨hl0,h1,hx⟩ := hs
 rcases hx with ⟨h0,c,rfl⟩ | ⟨a,c,rfl,hc⟩
 ·have e : l = [] := List.eq_nil_of_length_eq_zero h0
  subst e
  refine ⟨some ⟨g,0,none⟩,0,z,?_,rec_empty rfl,Turns.refl _ _,fun k hk => .inl (by cases hk; rfl)⟩
  have := run_append_room_src (P := Tryz.prog) z 23 23 23 47 i hut hi g 0 0 0 (.slice none 0 c) 0 [] (Src.ofNil z hut c) (by omega) (by simp) (by simp)
  rw [this]
  simp [World.setCells]
 ·obtain ⟨v',w',hrun,r1,r2,r3⟩ := run_append_where (P := Tryz.prog) z g 23 23 47 i zz 7 56 hut hi hz0 hz1 hz2 hz3 (by decide) _ 0 [] hown a l.length c (l.flatMap lxL) hl0 hc h1 (by unfold maxLen; omega) (by omega) (by omega)
  obtain ⟨a',c',rfl⟩ := owns_slice r1
  rw [Nat.zero_add,List.nil_append] at r1
  rw [Nat.zero_add] at hrun r3
  refine ⟨a',c',w',hrun,rec_of_row lxL_len rfl (by simpa using r1),⟨r2.os,r2.tape,r2.output,r2.size,fun j hj hX => r2.block j hj (fun e => hX (by have e2 : some j = some g := e; cases e2; rfl))⟩,fun k hk => ?_⟩
  rcases r3 with h | h
  ·rw [h] at hk
   left
   cases hk; rfl
  ·exact .inr (h k (by simpa using hk))
theorem wp_build0O {oi : Oper} {a : Act} {w : World} {K : Act → World → Prop} {Q : Exit → Act → World → Prop} (ho : oi.op = .buildSlice 23 0 #[]) (h : K (a.put oi.dst (.slice (some ⟨w.heap.size,0,none⟩) 0 0)) (w.alloc (.cells #[] 47))) : oi.wp Tryz.prog a w K Q := by
 have hr := build47 w
 unfold Oper.wp execOp
 simp only [ho,List.map_toArray,List.map_nil,Sem.run_bind,Sem.run_pure,Result.andThen_ok,hr]
 exact h
theorem wp_app_runT {oi : Oper} {a : Act} {w : World} {K : Act → World → Prop} {Q : Exit → Act → World → Prop} (s x : Operand) (hop : oi.op = Op.call { callee := Callee.builtin Builtin.append,args := #[s,x],argTypes := #[23,23] }) (hty : oi.type = 23)
  (v u v' : Value) (w' : World) (hs : a.eval s = v) (hx : a.eval x = u) (hrun : (Builtin.append_ #[23,23] 23 #[v,u]).run Tryz.prog w = .ok v' w') (h : K (a.put oi.dst v') w') : oi.wp Tryz.prog a w K Q :=
 wp_app_runO s x 23 hop v u v' w' hs hx (by rw [hty]; exact hrun) h
theorem below_turns {g : Nat} {w z z' : World} (h : Below w.heap.size w z) (ht : Turns (fun k => k = g) z z') (hg : w.heap.size ≤ g) : Below w.heap.size w z' := h.trans (ht.below h.size (fun k hk => by omega))
theorem block_turns {g k : Nat} {z z' : World} {o : Obj} (ht : Turns (fun k => k = g) z z') (h : z.heap[k]? = some o) (hne : k ≠ g) : z'.heap[k]? = some o := (ht.block k (Array.getElem?_eq_some_iff.1 h).1 hne).trans h
def opR4_3 (ps : String) : Oper := ⟨some 18,.slice 23 (.tmp 16) none (some (.tmp 17)) none,23,ps,#[⟨1,.data⟩,⟨2,.data⟩],none⟩
def opR4_8 (ps : String) : Oper := ⟨some 23,.slice 23 (.tmp 21) (some (.tmp 22)) none none,23,ps,#[⟨6,.data⟩,⟨7,.data⟩],none⟩
def opR4 (ps : String) : Array Oper := #[⟨some 15,.buildSlice 23 0 #[],23,ps,#[],none⟩,⟨some 16,.move (.tmp 0),23,ps,#[],none⟩,⟨some 17,.move (.tmp 7),3,ps,#[],none⟩,⟨some 18,.slice 23 (.tmp 16) none (some (.tmp 17)) none,23,ps,#[⟨1,.data⟩,⟨2,.data⟩],none⟩,⟨some 19,.call ⟨.builtin .append,#[.tmp 15,.tmp 18],#[23,23]⟩,23,ps,#[⟨0,.data⟩,⟨3,.data⟩],none⟩,⟨some 20,.buildSlice 23 0 #[],23,ps,#[],none⟩,⟨some 21,.move (.tmp 0),23,ps,#[],none⟩,⟨some 22,.move (.tmp 7),3,ps,#[],none⟩,⟨some 23,.slice 23 (.tmp 21) (some (.tmp 22)) none none,23,ps,#[⟨6,.data⟩,⟨7,.data⟩],none⟩,⟨some 24,.call ⟨.builtin .append,#[.tmp 20,.tmp 23],#[23,23]⟩,23,ps,#[⟨5,.data⟩,⟨8,.data⟩,⟨4,.chain⟩],none⟩,⟨some 4,.assign (.tmp 19),23,ps,#[⟨4,.data⟩,⟨9,.chain⟩,⟨0,.phase⟩,⟨1,.phase⟩,⟨2,.phase⟩,⟨3,.phase⟩,⟨4,.phase⟩,⟨5,.textOnly .lateStores⟩,⟨6,.textOnly .lateStores⟩,⟨7,.textOnly .lateStores⟩,⟨8,.textOnly .lateStoresUnsure⟩,⟨9,.textOnly .lateStoresUnsure⟩],none⟩,⟨some 5,.assign (.tmp 24),23,ps,#[⟨9,.data⟩,⟨10,.chain⟩,⟨0,.phase⟩,⟨1,.phase⟩,⟨2,.phase⟩,⟨3,.phase⟩,⟨4,.phase⟩,⟨5,.phase⟩,⟨6,.phase⟩,⟨7,.phase⟩,⟨8,.phase⟩,⟨9,.phase⟩,⟨10,.phase⟩],none⟩,⟨some 6,.assign (.const (.int .i64 0)),24,ps,#[⟨11,.chain⟩,⟨0,.phase⟩,⟨1,.phase⟩,⟨2,.phase⟩,⟨3,.phase⟩,⟨4,.phase⟩,⟨5,.phase⟩,⟨6,.phase⟩,⟨7,.phase⟩,⟨8,.phase⟩,⟨9,.phase⟩,⟨10,.phase⟩,⟨11,.phase⟩],none⟩]
theorem rs_r4 (Q : Exit → Act → World → Prop) (hQ : ∀ c x (n : Nat) v w,Q (.panic c) (x.put (some n) v) w → Q (.panic c) x w) (id : Nat) (ps : String) (v : Value) (h : Int) (m : Nat) (u1 u2 : Value) (l1 l2 : List Lx) (hl1 : l1.length ≤ 100000) (hl2 : l2.length ≤ 100000) (v2 v3 v4 v5 v6 v8 v9 xa xb xc xd xe xf xg xh xi xj xk xl xm xn xo : Value) (W : World)
  (h3 : ∀ (fr : Act) (w : World),fr.eval (.tmp 16) = v → fr.eval (.tmp 17) = .int .i64 m → (execOp fr.eval (opR4_3 ps)).run Tryz.prog w = .ok (.value u1) w) (h8 : ∀ (fr : Act) (w : World),fr.eval (.tmp 21) = v → fr.eval (.tmp 22) = .int .i64 m → (execOp fr.eval (opR4_8 ps)).run Tryz.prog w = .ok (.value u2) w)
  (hu1 : LxsAt W u1 l1) (hu2 : LxsAt W u2 l2)
  (hK : ∀ c d x15 x20 W',Below W.heap.size W W' → LxsAt W' c l1 → LxsAt W' d l2 → (∀ k,d.ownBlock = some k → W.heap.size ≤ k) → Q .normal { tmps := #[v,.int .i64 h,v2,v3,c,d,.int .i64 0,.int .i64 m,v8,v9,xa,xb,xc,xd,xe,x15,v,.int .i64 m,u1,c,x20,v,.int .i64 m,u2,d],defers := [] } W') :
  (Code.region id (opR4 ps) true).wp Tryz.prog Q { tmps := #[v,.int .i64 h,v2,v3,v4,v5,v6,.int .i64 m,v8,v9,xa,xb,xc,xd,xe,xf,xg,xh,xi,xj,xk,xl,xm,xn,xo],defers := [] } W := by
 have hS : (fun w => Below W.heap.size W w) W.drew := below_drew W
 refine wp_region_held (S := fun w => Below W.heap.size W w) (by kernel_rfl) ?_
 change wpAnyH _ _ _ _ _ 13 _ _ (World.drew W)
 generalize W.drew = V at hS ⊢
 unfold opR4
 refine wpAnyH_take (i := 1) (v := v) rfl (by kernel_rfl) (by kernel_rfl) (by kernel_rfl) (fun c x w => hQ c x _ _ w) (Or.inl ⟨by rfl,?y1⟩) hS ?_
 case y1 => (intro w' hw'; go_simp)
 go_simp
 refine wpAnyH_take (i := 2) (v := .int .i64 m) rfl (by kernel_rfl) (by kernel_rfl) (by kernel_rfl) (fun c x w => hQ c x _ _ w) (Or.inl ⟨by rfl,?y2⟩) hS ?_
 case y2 => (intro w' hw'; go_simp)
 go_simp
 refine wpAnyH_take (i := 6) (v := v) rfl (by kernel_rfl) (by kernel_rfl) (by kernel_rfl) (fun c x w => hQ c x _ _ w) (Or.inl ⟨by rfl,?y6⟩) hS ?_
 case y6 => (intro w' hw'; go_simp)
 go_simp
 refine wpAnyH_take (i := 7) (v := .int .i64 m) rfl (by kernel_rfl) (by kernel_rfl) (by kernel_rfl) (fun c x w => hQ c x _ _ w) (Or.inl ⟨by rfl,?y7⟩) hS ?_
 case y7 => (intro w' hw'; go_simp)
 go_simp
 refine wpAnyH_take (i := 3) (v := u1) rfl (by kernel_rfl) (by kernel_rfl) (by kernel_rfl) (fun c x w => hQ c x _ _ w) (Or.inl ⟨by rfl,fun w' _ => h3 _ w' rfl rfl⟩) hS ?_
 go_simp
 refine wpAnyH_take (i := 8) (v := u2) rfl (by kernel_rfl) (by kernel_rfl) (by kernel_rfl) (fun c x w => hQ c x _ _ w) (Or.inl ⟨by rfl,fun w' _ => h8 _ w' rfl rfl⟩) hS ?_
 go_simp
 clear h3 h8
 refine two_h (i := 0) (j := 5) (by kernel_rfl) rfl rfl (by kernel_rfl) (by kernel_rfl) (fun K hK' => ?_) (fun K hK' => ?_)
 ·refine wp_build0O rfl ?_
  have hB1 := hS.alloc hS.size (.cells #[] 47)
  have hAz1 : Below V.heap.size V (V.alloc (.cells #[] 47)) := (Below.refl _ _).alloc (Nat.le_refl _) _
  have hr1 := World.alloc_heap_new V (.cells #[] 47)
  have hsz1 : V.heap.size < (V.alloc (.cells #[] 47)).heap.size := by rw [World.size_alloc]; omega
  have hzV := hS.size
  refine hK' _ _ hB1 ?_
  clear hK' K
  generalize V.alloc (.cells #[] 47) = z1 at *
  go_simp
  refine two_h (i := 4) (j := 5) (by kernel_rfl) rfl rfl (by kernel_rfl) (by kernel_rfl) (fun K hK' => ?_) (fun K hK' => ?_)
  ·obtain ⟨a1,c1,z2,hrunz2,hc2,hT2,hn2⟩ := app_e hr1 (hu1.below hB1 (Nat.le_refl _)) hl1
   have hB2 := below_turns hB1 hT2 (by omega)
   refine wp_app_runT (.tmp 15) (.tmp 18) (by kernel_rfl) (by kernel_rfl) (.slice (some ⟨V.heap.size,0,none⟩) 0 0) u1 (.slice a1 l1.length c1) z2 (by kernel_rfl) (by kernel_rfl) hrunz2 ?_
   refine hK' _ _ hB2 ?_
   clear hK' K hrunz2
   go_simp
   refine want_h (i := 5) (by kernel_rfl) rfl (by kernel_rfl) fun K hK' => ?_
   refine wp_build0O rfl ?_
   have hB3 := hB2.alloc hB2.size (.cells #[] 47)
   have hAz3 : Below z2.heap.size z2 (z2.alloc (.cells #[] 47)) := (Below.refl _ _).alloc (Nat.le_refl _) _
   have hr3 := World.alloc_heap_new z2 (.cells #[] 47)
   have hsz3 : z2.heap.size < (z2.alloc (.cells #[] 47)).heap.size := by rw [World.size_alloc]; omega
   have hzz2 := hB2.size
   refine hK' _ _ hB3 ?_
   clear hK' K
   generalize z2.alloc (.cells #[] 47) = z3 at *
   go_simp
   refine want_h (i := 9) (by kernel_rfl) rfl (by kernel_rfl) fun K hK' => ?_
   obtain ⟨a2,c2,z4,hrunz4,hd4,hT4,hn4⟩ := app_e hr3 (hu2.below hB3 (Nat.le_refl _)) hl2
   have hB4 := below_turns hB3 hT4 (by omega)
   refine wp_app_runT (.tmp 20) (.tmp 23) (by kernel_rfl) (by kernel_rfl) (.slice (some ⟨z2.heap.size,0,none⟩) 0 0) u2 (.slice a2 l2.length c2) z4 (by kernel_rfl) (by kernel_rfl) hrunz4 ?_
   refine hK' _ _ hB4 ?_
   clear hK' K hrunz4
   go_simp
   have hc4 := hc2.below (below_turns hAz3 hT4 (by omega)) (Nat.le_refl _)
   refine wpAnyH_take (i := 10) (v := (.slice a1 l1.length c1)) rfl (by kernel_rfl) (by kernel_rfl) (by kernel_rfl) (fun c x w => hQ c x _ _ w) (Or.inl ⟨by rfl,?y10⟩) hB4 ?_
   case y10 => (intro w' hw'; go_simp)
   go_simp
   refine wpAnyH_take (i := 11) (v := (.slice a2 l2.length c2)) rfl (by kernel_rfl) (by kernel_rfl) (by kernel_rfl) (fun c x w => hQ c x _ _ w) (Or.inl ⟨by rfl,?y11⟩) hB4 ?_
   case y11 => (intro w' hw'; go_simp)
   go_simp
   refine wpAnyH_take (i := 12) (v := .int .i64 0) rfl (by kernel_rfl) (by kernel_rfl) (by kernel_rfl) (fun c x w => hQ c x _ _ w) (Or.inl ⟨by rfl,?y12⟩) hB4 ?_
   case y12 => (intro w' hw'; go_simp)
   go_simp
   exact wpAnyH_done (by kernel_rfl) (hK _ _ _ _ z4 hB4 hc4 hd4 (fun k hk => by have := hn4 k hk; omega)) _
  ·refine wp_build0O rfl ?_
   have hB2 := hB1.alloc hB1.size (.cells #[] 47)
   have hAz2 : Below z1.heap.size z1 (z1.alloc (.cells #[] 47)) := (Below.refl _ _).alloc (Nat.le_refl _) _
   have hr2 := World.alloc_heap_new z1 (.cells #[] 47)
   have hsz2 : z1.heap.size < (z1.alloc (.cells #[] 47)).heap.size := by rw [World.size_alloc]; omega
   have hzz1 := hB1.size
   refine hK' _ _ hB2 ?_
   clear hK' K
   generalize z1.alloc (.cells #[] 47) = z2 at *
   go_simp
   have hr12 := (hAz2.block _ (Array.getElem?_eq_some_iff.1 hr1).1).trans hr1
   refine want_h (i := 4) (by kernel_rfl) rfl (by kernel_rfl) fun K hK' => ?_
   obtain ⟨a1,c1,z3,hrunz3,hc3,hT3,hn3⟩ := app_e hr12 (hu1.below hB2 (Nat.le_refl _)) hl1
   have hB3 := below_turns hB2 hT3 (by omega)
   refine wp_app_runT (.tmp 15) (.tmp 18) (by kernel_rfl) (by kernel_rfl) (.slice (some ⟨V.heap.size,0,none⟩) 0 0) u1 (.slice a1 l1.length c1) z3 (by kernel_rfl) (by kernel_rfl) hrunz3 ?_
   refine hK' _ _ hB3 ?_
   clear hK' K hrunz3
   go_simp
   have hr23 := block_turns hT3 hr2 (by omega)
   refine want_h (i := 9) (by kernel_rfl) rfl (by kernel_rfl) fun K hK' => ?_
   obtain ⟨a2,c2,z4,hrunz4,hd4,hT4,hn4⟩ := app_e hr23 (hu2.below hB3 (Nat.le_refl _)) hl2
   have hB4 := below_turns hB3 hT4 (by omega)
   refine wp_app_runT (.tmp 20) (.tmp 23) (by kernel_rfl) (by kernel_rfl) (.slice (some ⟨z1.heap.size,0,none⟩) 0 0) u2 (.slice a2 l2.length c2) z4 (by kernel_rfl) (by kernel_rfl) hrunz4 ?_
   refine hK' _ _ hB4 ?_
   clear hK' K hrunz4
   go_simp
   have hc4 := own_turns hc3 hT4 (fun e => by have := hn3 _ e; omega)
   have hz3 := hB3.size
   refine wpAnyH_take (i := 10) (v := (.slice a1 l1.length c1)) rfl (by kernel_rfl) (by kernel_rfl) (by kernel_rfl) (fun c x w => hQ c x _ _ w) (Or.inl ⟨by rfl,?y10⟩) hB4 ?_
   case y10 => (intro w' hw'; go_simp)
   go_simp
   refine wpAnyH_take (i := 11) (v := (.slice a2 l2.length c2)) rfl (by kernel_rfl) (by kernel_rfl) (by kernel_rfl) (fun c x w => hQ c x _ _ w) (Or.inl ⟨by rfl,?y11⟩) hB4 ?_
   case y11 => (intro w' hw'; go_simp)
   go_simp
   refine wpAnyH_take (i := 12) (v := .int .i64 0) rfl (by kernel_rfl) (by kernel_rfl) (by kernel_rfl) (fun c x w => hQ c x _ _ w) (Or.inl ⟨by rfl,?y12⟩) hB4 ?_
   case y12 => (intro w' hw'; go_simp)
   go_simp
   exact wpAnyH_done (by kernel_rfl) (hK _ _ _ _ z4 hB4 hc4 hd4 (fun k hk => by have := hn4 k hk; omega)) _
 ·refine wp_build0O rfl ?_
  have hB1 := hS.alloc hS.size (.cells #[] 47)
  have hAz1 : Below V.heap.size V (V.alloc (.cells #[] 47)) := (Below.refl _ _).alloc (Nat.le_refl _) _
  have hr1 := World.alloc_heap_new V (.cells #[] 47)
  have hsz1 : V.heap.size < (V.alloc (.cells #[] 47)).heap.size := by rw [World.size_alloc]; omega
  have hzV := hS.size
  refine hK' _ _ hB1 ?_
  clear hK' K
  generalize V.alloc (.cells #[] 47) = z1 at *
  go_simp
  refine want_h (i := 0) (by kernel_rfl) rfl (by kernel_rfl) fun K hK' => ?_
  refine wp_build0O rfl ?_
  have hB2 := hB1.alloc hB1.size (.cells #[] 47)
  have hAz2 : Below z1.heap.size z1 (z1.alloc (.cells #[] 47)) := (Below.refl _ _).alloc (Nat.le_refl _) _
  have hr2 := World.alloc_heap_new z1 (.cells #[] 47)
  have hsz2 : z1.heap.size < (z1.alloc (.cells #[] 47)).heap.size := by rw [World.size_alloc]; omega
  have hzz1 := hB1.size
  refine hK' _ _ hB2 ?_
  clear hK' K
  generalize z1.alloc (.cells #[] 47) = z2 at *
  go_simp
  have hr12 := (hAz2.block _ (Array.getElem?_eq_some_iff.1 hr1).1).trans hr1
  refine want_h (i := 4) (by kernel_rfl) rfl (by kernel_rfl) fun K hK' => ?_
  obtain ⟨a1,c1,z3,hrunz3,hc3,hT3,hn3⟩ := app_e hr2 (hu1.below hB2 (Nat.le_refl _)) hl1
  have hB3 := below_turns hB2 hT3 (by omega)
  refine wp_app_runT (.tmp 15) (.tmp 18) (by kernel_rfl) (by kernel_rfl) (.slice (some ⟨z1.heap.size,0,none⟩) 0 0) u1 (.slice a1 l1.length c1) z3 (by kernel_rfl) (by kernel_rfl) hrunz3 ?_
  refine hK' _ _ hB3 ?_
  clear hK' K hrunz3
  go_simp
  have hr23 := block_turns hT3 hr12 (by omega)
  refine want_h (i := 9) (by kernel_rfl) rfl (by kernel_rfl) fun K hK' => ?_
  obtain ⟨a2,c2,z4,hrunz4,hd4,hT4,hn4⟩ := app_e hr23 (hu2.below hB3 (Nat.le_refl _)) hl2
  have hB4 := below_turns hB3 hT4 (by omega)
  refine wp_app_runT (.tmp 20) (.tmp 23) (by kernel_rfl) (by kernel_rfl) (.slice (some ⟨V.heap.size,0,none⟩) 0 0) u2 (.slice a2 l2.length c2) z4 (by kernel_rfl) (by kernel_rfl) hrunz4 ?_
  refine hK' _ _ hB4 ?_
  clear hK' K hrunz4
  go_simp
  have hc4 := own_turns hc3 hT4 (fun e => by have := hn3 _ e; omega)
  have hz3 := hB3.size
  refine wpAnyH_take (i := 10) (v := (.slice a1 l1.length c1)) rfl (by kernel_rfl) (by kernel_rfl) (by kernel_rfl) (fun c x w => hQ c x _ _ w) (Or.inl ⟨by rfl,?y10⟩) hB4 ?_
  case y10 => (intro w' hw'; go_simp)
  go_simp
  refine wpAnyH_take (i := 11) (v := (.slice a2 l2.length c2)) rfl (by kernel_rfl) (by kernel_rfl) (by kernel_rfl) (fun c x w => hQ c x _ _ w) (Or.inl ⟨by rfl,?y11⟩) hB4 ?_
  case y11 => (intro w' hw'; go_simp)
  go_simp
  refine wpAnyH_take (i := 12) (v := .int .i64 0) rfl (by kernel_rfl) (by kernel_rfl) (by kernel_rfl) (fun c x w => hQ c x _ _ w) (Or.inl ⟨by rfl,?y12⟩) hB4 ?_
  case y12 => (intro w' hw'; go_simp)
  go_simp
  exact wpAnyH_done (by kernel_rfl) (hK _ _ _ _ z4 hB4 hc4 hd4 (fun k hk => by have := hn4 k hk; omega)) _

end Go.Proofs.YtlgcnbomfhmjiaaGreatDoor

namespace Go.Proofs.YtlgcnbomfhmjiaaGreatDoor
open Go.RowKit Go.Shelf
set_option maxRecDepth 100000
set_option maxHeartbeats 4000000

theorem sl_head {ps : String} {a : Option Addr} {n cap m : Nat} (hm : m ≤ n) (hc : n ≤ cap) (fr : Act) (w : World) (e1 : fr.eval (.tmp 16) = .slice a n cap) (e2 : fr.eval (.tmp 17) = .int .i64 m) : (execOp fr.eval (opR4_3 ps)).run Tryz.prog w = .ok (.value (.slice a m cap)) w := by
 have h1 : ¬ (cap : Int) < m := by omega
 have h2 : ¬ (m : Int) < 0 := by omega
 have h3 : ¬ cap < m := by omega
 have h4 : ¬ n < m := by omega
 have e2' : fr.tmps[17]?.getD undef = .int .i64 m := by
  rw [← e2]
  go_simp
 unfold opR4_3
 simp only [execOp,e1]
 go_simp
theorem sl_tail {ps : String} {a : Option Addr} {n cap m : Nat} (hm : m ≤ n) (hc : n ≤ cap) (fr : Act) (w : World) (e1 : fr.eval (.tmp 21) = .slice a n cap) (e2 : fr.eval (.tmp 22) = .int .i64 m) : (execOp fr.eval (opR4_8 ps)).run Tryz.prog w = .ok (.value (if cap = m then .slice a (n - m) 0 else .slice (a.map (·.add (m * 7))) (n - m) (cap - m))) w := by
 have h1 : ¬ (cap : Int) < m := by omega
 have h2 : ¬ (m : Int) < 0 := by omega
 have h3 : ¬ cap < m := by omega
 have h4 : ¬ n < m := by omega
 have e2' : fr.tmps[22]?.getD undef = .int .i64 m := by
  rw [← e2]
  go_simp
 unfold opR4_8
 simp only [execOp,e1]
 go_simp
 by_cases e : cap = m
 ·subst e
  simp
 ·simp [e]
def RsEnd (qs : List Lx) (h : Int) (w : World) (e : Ending) (w' : World) : Prop := ((h < 0 ∧ e = .returned (.tuple #[.slice none 0 0,.slice none 0 0,.int .i64 5])) ∨ (0 ≤ h ∧ ∃ c d,e = .returned (.tuple #[c,d,.int .i64 0]) ∧ LxsAt w' c (qs.take (spN h qs.length)) ∧ LxsAt w' d (qs.drop (spN h qs.length)) ∧ ∀ k,d.ownBlock = some k → w.heap.size ≤ k)) ∧ Below w.heap.size w w'
theorem tail_at {W : World} {a : Option Addr} {cap m : Nat} {qs : List Lx} (h : LxsAt W (.slice a qs.length cap) qs) (hm : m ≤ qs.length) : LxsAt W (if cap = m then .slice a (qs.length - m) 0 else .slice (a.map (·.add (m * 7))) (qs.length - m) (cap - m)) (qs.drop m) := by
 have hc := h.le _ _ _ rfl
 split
 ·rename_i e
  rw [show qs.length - m = 0 by omega]
  exact rec_empty (List.drop_eq_nil_iff.2 (by omega))
 ·obtain ⟨a',cp,e,h2⟩ := h.ex
  cases e
  rcases h2 with h2 | ⟨b,o,rfl,hb,hr⟩
  ·have hm0 : m = 0 := by rw [h2] at hm; simpa using hm
   subst hm0
   rw [show qs.length - 0 = 0 by rw [h2]; rfl]
   exact rec_empty (by rw [h2]; rfl)
  ·have e : (some (⟨b,o,none⟩ : Addr)).map (fun x => x.add (m * 7)) = some ⟨b,o + m * 7,none⟩ := by simp [Addr.add]
   rw [e]
   exact rec_drop h hm (cap - m) (by omega)
theorem head_at {W : World} {a : Option Addr} {cap m : Nat} {qs : List Lx} (h : LxsAt W (.slice a qs.length cap) qs) (hm : m ≤ qs.length) : LxsAt W (.slice a m cap) (qs.take m) := by
 have hc := h.le _ _ _ rfl
 obtain ⟨a',cp,e,h2⟩ := h.ex
 cases e
 rcases h2 with h2 | ⟨b,o,rfl,hb,hr⟩
 ·have hm0 : m = 0 := by rw [h2] at hm; simpa using hm
  subst hm0
  exact rec_empty (by simp)
 ·exact rec_take h hm cap (by omega)
theorem rsplit_any (v : Value) (qs : List Lx) (h : Int) (hh : -9223372036854775808 ≤ h ∧ h ≤ 9223372036854775807) (w : World) (hl : qs.length ≤ 100000) (hA : LxsAt w v qs) : Calls Tryz.prog 19 #[v,.int .i64 h] w (RsEnd qs h w) := by
 obtain ⟨a,cap,rfl,-⟩ := hA.ex
 by_cases h0 : h < 0
 ·have hend : Hid (RsEnd qs h w (.returned (.tuple #[.slice none 0 0,.slice none 0 0,.int .i64 5])) w) := ⟨.inl ⟨h0,rfl⟩,Below.refl _ _⟩
  generalize RsEnd qs h w = E at *
  clear hA hh
  go_enter Tryz.func19,Tryz.ntmps19
  go_wp2_with fail
  exact hend.out
 ·obtain ⟨H,rfl⟩ : ∃ H : Nat,h = H := ⟨h.toNat,by omega⟩
  have hend : Hid (∀ W c d (m : Nat),m = min (H / 10) qs.length → LxsAt W c (qs.take m) → LxsAt W d (qs.drop m) → (∀ k,d.ownBlock = some k → w.heap.size ≤ k) → Below w.heap.size w W → RsEnd qs H w (.returned (.tuple #[c,d,.int .i64 0])) W) := fun W c d m hm h1 h2 h3 h4 => by
   subst hm
   exact ⟨.inr ⟨by omega,c,d,rfl,by rw [spN_q]; exact h1,by rw [spN_q]; exact h2,h3⟩,h4⟩
  have hq : Hid (wrap64 ((H : Int).tdiv 10) = ((H / 10 : Nat) : Int)) := quo10 hh.2
  have hdv : Hid ((H : Int) / 10 = ((H / 10 : Nat) : Int)) := (by omega : (H : Int) / 10 = ((H / 10 : Nat) : Int))
  have hc := hA.le _ _ _ rfl
  have hAh : Hid (LxsAt w (.slice a qs.length cap) qs) := hA
  clear hA hh
  generalize RsEnd qs H w = E at *
  have hreg : Hid (∀ m : Nat,m ≤ qs.length → LxsAt w (.slice a m cap) (qs.take m) ∧ LxsAt w (if cap = m then .slice a (qs.length - m) 0 else .slice (a.map (·.add (m * 7))) (qs.length - m) (cap - m)) (qs.drop m) ∧ (qs.take m).length ≤ 100000 ∧ (qs.drop m).length ≤ 100000) := fun m hm => ⟨head_at hAh.out hm,tail_at hAh.out hm,by rw [List.length_take]; omega,by rw [List.length_drop]; omega⟩
  by_cases hle : H / 10 ≤ qs.length
  ·have hle' : wrap64 ((H : Int).tdiv 10) ≤ (qs.length : Int) := by rw [hq.out]; omega
   go_enter Tryz.func19,Tryz.ntmps19
   go_wp2_with fail
   rw [hdv.out]
   obtain ⟨g1,g2,g3,g4⟩ := hreg.out (H / 10) hle
   refine rs_r4 _ (fun _ _ _ _ _ h => h) _ _ (.slice a qs.length cap) H (H / 10) _ _ _ _ g3 g4 _ _ _ _ _ _ _ _ _ _ _ _ _ _ _ _ _ _ _ _ _ _ w (fun fr w e1 e2 => sl_head hle hc fr w e1 e2) (fun fr w e1 e2 => sl_tail hle hc fr w e1 e2) g1 g2 ?_
   intro c d x15 x20 W' hb k1 k2 k3
   have hfin := hend.out W' c d (H / 10) (by omega) k1 k2 k3 hb
   clear hend hreg hAh g1 g2 g3 g4 k1 k2 k3 hb
   go_wp2_with fail
   all_goals exact hfin
  ·have hle' : ¬ wrap64 ((H : Int).tdiv 10) ≤ (qs.length : Int) := by rw [hq.out]; omega
   go_enter Tryz.func19,Tryz.ntmps19
   go_wp2_with fail
   obtain ⟨g1,g2,g3,g4⟩ := hreg.out qs.length (Nat.le_refl _)
   refine rs_r4 _ (fun _ _ _ _ _ h => h) _ _ (.slice a qs.length cap) H qs.length _ _ _ _ g3 g4 _ _ _ _ _ _ _ _ _ _ _ _ _ _ _ _ _ _ _ _ _ _ w (fun fr w e1 e2 => sl_head (Nat.le_refl _) hc fr w e1 e2) (fun fr w e1 e2 => sl_tail (Nat.le_refl _) hc fr w e1 e2) g1 g2 ?_
   intro c d x15 x20 W' hb k1 k2 k3
   have hfin := hend.out W' c d qs.length (by omega) k1 k2 k3 hb
   clear hend hreg hAh g1 g2 g3 g4 k1 k2 k3 hb
   go_wp2_with fail
   all_goals exact hfin
theorem rheight_any (a : Option Addr) (n c : Nat) (hn : n ≤ 100000) (w : World) : Calls Tryz.prog 21 #[.slice a n c] w fun e w' => e = .returned (.int .i64 (10 * (n : Int))) ∧ w' = w := by
 have h1 : ¬ 9223372036854775807 < n := by omega
 go_enter Tryz.func21,Tryz.ntmps21
 go_wp2_with fail
 go_ret
 refine ⟨?_,rfl⟩
 simp
end Go.Proofs.YtlgcnbomfhmjiaaGreatDoor

namespace Go.Proofs.YtlgcnbomfhmjiaaGreatDoor
open Go.RowKit Go.Shelf
set_option maxRecDepth 100000
set_option maxHeartbeats 8000000

structure SpK (w : World) (er : Int) (a b c d iv lv : Value) (L1 L2 ls : List Lx) (W : World) : Prop where
 a1 : LxsAt W a L1
 b1 : LxsAt W b L2
 c1 : LxsAt W c L1
 d1 : LxsAt W d L2
 l1 : L1.length ≤ 9223372036854775807
 l2 : L2.length ≤ 9223372036854775807
 ov : Ov1 w a b d iv lv L2 ls W
 lo : Below w.heap.size w W
theorem Ov1.next {w W W' : World} {a b d iv lv : Value} {L2 ls : List Lx} (h : Ov1 w a b d iv lv L2 ls W) (hb : Below W.heap.size W W') : Ov1 w a b d iv lv L2 ls W' := fun W2 hb2 => h W2 (hb.trans (hb2.mono hb.size))
theorem SpK.next {w : World} {er : Int} {a b c d iv lv : Value} {L1 L2 ls : List Lx} {W W' : World} (h : SpK w er a b c d iv lv L1 L2 ls W) (hb : Below W.heap.size W W') : SpK w er a b c d iv lv L1 L2 ls W' :=
 ⟨h.a1.below hb (Nat.le_refl _),h.b1.below hb (Nat.le_refl _),h.c1.below hb (Nat.le_refl _),h.d1.below hb (Nat.le_refl _),h.l1,h.l2,h.ov.next hb,h.lo.trans (hb.mono h.lo.size)⟩
theorem sp_both {w V W1 W2 : World} {h : Int} {e1 e2 : Ending} {iv lv : Value} {ls : List Lx} (hl : ls.length ≤ 100000) (hV : Below w.heap.size w V) (hi : LxsAt V iv ls) (hlv : LxsAt w lv ls) (h1 : SpEnd ls h V e1 W1) (h2 : RsEnd ls h W1 e2 W2) :
  ∃ (er : Int) (a b c d : Value) (L1 L2 : List Lx),e1 = .returned (.tuple #[a,b,.int .i64 er]) ∧ e2 = .returned (.tuple #[c,d,.int .i64 er]) ∧ SpK w er a b c d iv lv L1 L2 ls W2 := by
 obtain ⟨x1,hb1⟩ := h1
 obtain ⟨x2,hb2⟩ := h2
 have hb12 := hb1.trans (hb2.mono hb1.size)
 have hB := hV.trans (hb12.mono hV.size)
 rcases x1 with ⟨h0,rfl⟩ | ⟨h0,a,b,rfl,hS⟩
 ·rcases x2 with ⟨_,rfl⟩ | ⟨h0',_⟩
  ·refine ⟨5,_,_,_,_,[],[],rfl,rfl,⟨rec_empty rfl,rec_empty rfl,rec_empty rfl,rec_empty rfl,by simp,by simp,?_,hB⟩⟩
   exact ov_nil (rec_empty rfl) (hi.below hb12 (Nat.le_refl _)) (hlv.below hB (Nat.le_refl _)) hB
  ·omega
 ·rcases x2 with ⟨h0',_⟩ | ⟨_,c,d,rfl,hc,hd,hdn⟩
  ·omega
  ·have hm := spN_le h ls.length
   refine ⟨0,a,b,c,d,ls.take (spN h ls.length),ls.drop (spN h ls.length),rfl,rfl,⟨(hS.first hm).below hb2 (Nat.le_refl _),(hS.second hm).below hb2 (Nat.le_refl _),hc,hd,by rw [List.length_take]; omega,by rw [List.length_drop]; omega,?_,hB⟩⟩
   exact ov_split hS hm hl hb12 hV.size hb2 hB hd hdn hi hlv
theorem SpEnd.ret {qs : List Lx} {h : Int} {w w' : World} {e : Ending} (H : SpEnd qs h w e w') : (∃ a b er,e = .returned (.tuple #[a,b,.int .i64 er])) ∧ Below w.heap.size w w' := by
 obtain ⟨⟨_,rfl⟩ | ⟨_,a,b,rfl,_⟩,hb⟩ := H
 ·exact ⟨⟨_,_,_,rfl⟩,hb⟩
 ·exact ⟨⟨_,_,_,rfl⟩,hb⟩
theorem splits4 (v : Value) (ls : List Lx) (h : Int) (hh : -9223372036854775808 ≤ h ∧ h ≤ 9223372036854775807) (w : World) (hA : LxsAt w v ls) (hlen : ls.length ≤ 9223372036854775807) : Calls Tryz.prog 4 #[v,.int .i64 h] w fun e w' => e = .returned (.bool true) ∧ Below w.heap.size w w' := by
 obtain ⟨pa,cap,rfl,-⟩ := hA.ex
 by_cases hl : ls.length ≤ 1000
 ·have hl' : ¬ (1000 : Int) < ls.length := by omega
  obtain ⟨a',c',W',hrun,hr,hb⟩ := cp_run el47 (by decide) (by decide) lxL_len lxL_one hA (by omega) (by omega) w (Below.refl _ _)
  have hi : LxsAt W' (.slice a' ls.length c') ls := rec_of_row lxL_len rfl hr
  have hs := nsplit_any (.slice a' ls.length c') ls h hh W' (by omega) hi
  have hrs := fun W1 (hb1 : Below w.heap.size w W1) => rsplit_any (.slice pa ls.length cap) ls h hh W1 (by omega) (hA.below hb1 (Nat.le_refl _))
  have hboth : Hid (∀ W1 W2 e1 e2,SpEnd ls h W' e1 W1 → RsEnd ls h W1 e2 W2 → ∃ (er : Int) (a b c d : Value) (L1 L2 : List Lx),e1 = .returned (.tuple #[a,b,.int .i64 er]) ∧ e2 = .returned (.tuple #[c,d,.int .i64 er]) ∧ SpK w er a b c d (.slice a' ls.length c') (.slice pa ls.length cap) L1 L2 ls W2) := fun W1 W2 e1 e2 h1 h2 => sp_both (by omega) hb hi hA h1 h2
  have hrunh : Hid _ := hrun
  have hsh : Hid (Calls Tryz.prog 18 #[.slice a' ls.length c',.int .i64 h] W' (SpEnd ls h W')) := hs
  have hrsh : Hid (∀ W1,Below w.heap.size w W1 → Calls Tryz.prog 19 #[.slice pa ls.length cap,.int .i64 h] W1 (RsEnd ls h W1)) := hrs
  have hbh : Hid (Below w.heap.size w W') := hb
  clear hrun hs hrs hb hi hr hA hh
  go_enter Tryz.func4,Tryz.ntmps4
  go_wp2_with (first | (refine wpList_build0 rfl 23 47 rfl build47 ?_) | (refine wpList_app_run rfl (.tmp 15) (.tmp 16) 23 rfl (.slice (some ⟨w.heap.size,0,none⟩) 0 0) (.slice pa ls.length cap) (.slice a' ls.length c') W' rfl rfl hrunh.out ?_))
  clear hrunh
  refine hsh.out.mono ?_
  rintro e1 W1 hE1
  obtain ⟨⟨a0,b0,er0,rfl⟩,hb1⟩ := hE1.ret
  have hE1h : Hid (SpEnd ls h W' (.returned (.tuple #[a0,b0,.int .i64 er0])) W1) := hE1
  have hb1h : Hid (Below w.heap.size w W1) := hbh.out.trans (hb1.mono hbh.out.size)
  clear hE1 hb1 hsh
  go_wp2_with fail
  refine (hrsh.out W1 hb1h.out).mono ?_
  rintro e2 W2 hE2
  obtain ⟨er,a,b,c,d,L1,L2,q1,rfl,hK⟩ := hboth.out _ _ _ _ hE1h.out hE2
  injection q1 with q2
  injection q2 with q3
  simp only [Array.mk.injEq,List.cons.injEq,Value.int.injEq,and_true,true_and] at q3
  obtain ⟨rfl,rfl,rfl⟩ := q3
  have hKh : Hid (SpK w er0 a0 b0 c d (.slice a' ls.length c') (.slice pa ls.length cap) L1 L2 ls W2) := hK
  clear hK hE2 hE1h hb1h hboth hrsh hbh
  go_wp2_with fail
  refine (sameLines_yes _ _ L1 W2 hKh.out.l1 hKh.out.a1 hKh.out.c1).mono ?_
  rintro e W3 ⟨rfl,hb3⟩
  have hK3 : Hid (SpK w er0 a0 b0 c d (.slice a' ls.length c') (.slice pa ls.length cap) L1 L2 ls W3) := hKh.out.next hb3
  clear hKh hb3
  go_wp2_with fail
  refine (sameLines_yes _ _ L2 W3 hK3.out.l2 hK3.out.b1 hK3.out.d1).mono ?_
  rintro e W4 ⟨rfl,hb4⟩
  have hK4 : Hid (SpK w er0 a0 b0 c d (.slice a' ls.length c') (.slice pa ls.length cap) L1 L2 ls W4) := hK3.out.next hb4
  clear hK3 hb4
  go_wp2_with fail
  refine (nheight_any _ ls.length _ (by omega) _).mono ?_
  rintro e W5 ⟨rfl,rfl⟩
  go_wp2_with fail
  refine (rheight_any _ ls.length _ (by omega) _).mono ?_
  rintro e W6 ⟨rfl,rfl⟩
  go_wp2_with fail
  refine (hK4.out.ov _ (Below.refl _ _)).mono ?_
  rintro e W7 ⟨rfl,k1,k2,k3,k4⟩
  have hk3 : Hid (Below w.heap.size w W7) := k3
  have hk4 : Hid (∀ W',Below W7.heap.size W7 W' → Calls Tryz.prog 16 #[b0] W' fun e W2 => e = .returned (.tuple #[]) ∧ LxsAt W2 (.slice a' ls.length c') ls ∧ LxsAt W2 (.slice pa ls.length cap) ls ∧ Below w.heap.size w W2) := k4
  have hl2 := hK4.out.l2
  clear k3 k4 hK4
  go_wp2_with fail
  refine (sameLines_yes _ _ L2 W7 hl2 k1 k2).mono ?_
  rintro e W8 ⟨rfl,hb8⟩
  have hb8h : Hid (Below W7.heap.size W7 W8) := hb8
  clear k1 k2 hl2 hb8 hk3
  go_wp2_with fail
  refine (hk4.out W8 hb8h.out).mono ?_
  rintro e W9 ⟨rfl,q1,q2,q3⟩
  have hq3 : Hid (Below w.heap.size w W9) := q3
  clear q3 hk4 hb8h
  go_wp2_with fail
  refine (sameLines_yes _ _ ls W9 hlen q1 q2).mono ?_
  rintro e W10 ⟨rfl,hb10⟩
  have h10 : Hid (Below w.heap.size w W10) := hq3.out.trans (hb10.mono hq3.out.size)
  clear q1 q2 hq3 hb10
  go_wp2_with fail
  refine (awake17 W10).mono ?_
  rintro e W11 ⟨rfl,hb11⟩
  have h11 := h10.out.trans (hb11.mono h10.out.size)
  clear h10 hb11
  go_wp2_with fail
  go_ret
  exact ⟨rfl,h11⟩
 ·have hl' : (1000 : Int) < ls.length := by omega
  clear hA hh
  go_enter Tryz.func4,Tryz.ntmps4
  go_wp2_with fail
  go_ret
  exact ⟨rfl,Below.refl _ _⟩
end Go.Proofs.YtlgcnbomfhmjiaaGreatDoor

namespace Go.Proofs.YtlgcnbomfhmjiaaGreatDoor
open Go.ChangeShapes Go.WideShapes Go.ChangeAt Go.RowKit

theorem recs_in {H : Type} {enc : TypeId × Value → H} {W : World} {spare : Nat → Bool} {fuel : Nat} {cs : List Value} {x : DataW H × List MemPlace} {α : Type} {k : Nat} {f : α → List Value} {ty e : TypeId} (hu : Tryz.prog.underlying ty = some (.slice e)) (ck : Tryz.prog.cellsOf e = k) (hk : 0 < k)
  (hat : ∀ (n : Nat) (cs : List Value) (x : DataW H × List MemPlace),cs.length = k → DataW.trod enc Tryz.prog W 0 spare true n e cs = some x → ∃ q : α,cs = f q)
  (hf : DataW.trod enc Tryz.prog W 0 spare true fuel ty cs = some x) : ∃ (v : Value) (qs : List α),cs = [v] ∧ RecAt k f W v qs ∧ qs.length ≤ 9223372036854775807 ∧ ((x.1 = .nil ∧ qs = []) ∨ ∃ es sp,x.1 = .slice es sp ∧ es.length = qs.length) := by
 rcases Deep.open_slice hu hf with ⟨hcs,hx0⟩ | ⟨a,len,cap,m,n,D,Pl,hcs,_,hl,hm,hmm,hx1,hx⟩
 ·subst hcs
  exact ⟨_,[],rfl,⟨⟨none,0,rfl,.inl rfl⟩,fun a n c e => by cases e; exact Nat.le_refl _⟩,by simp,.inl ⟨by rw [hx0],rfl⟩⟩
 ·subst hcs
  have hlm : len ≤ m := by rw [hmm]; split <;> omega
  rw [ck] at hx
  have hdat : ∃ es sp,x.1 = .slice es sp ∧ es.length = len := by rw [hx1]; exact ⟨_,_,rfl,by simp⟩
  obtain ⟨es,sp,hes,hel⟩ := hdat
  by_cases h0 : len = 0
  ·subst h0
   exact ⟨_,[],rfl,⟨⟨_,_,rfl,.inl rfl⟩,fun a n c e => by cases e; exact hl⟩,by simp,.inr ⟨es,sp,hes,by simpa using hel⟩⟩
  ·obtain ⟨b,off,spot⟩ := a
   obtain ⟨cs',hc0,ht0⟩ := hx 0 (by omega)
   have hb := World.cells?_block hc0 (by omega)
   obtain ⟨_,hl0,hce⟩ := World.cells?_some hc0
   have hg := hce 0 (by omega)
   have hspot : spot = none := by
    match cs',hl0 with
    | z :: _,_ => simpa [Addr.add] using World.cell?_spot hg
    | [],h => simp at h; omega
   subst hspot
   rw [addr_add] at hb
   have hq : ∀ i : Fin len,∃ q : α,∀ j u,(f q)[j]? = some u → W.cell? ⟨b,off + i * k + j,none⟩ = some u := fun i => by
    obtain ⟨cs',hc1,ht1⟩ := hx i (by omega)
    rw [addr_add] at hc1
    obtain ⟨_,hl1,hce1⟩ := World.cells?_some hc1
    obtain ⟨q,rfl⟩ := hat _ _ _ hl1 ht1
    refine ⟨q,fun j u hu => ?_⟩
    have hj : j < (f q).length := (List.getElem?_eq_some_iff.1 hu).1
    have := hce1 j (by omega)
    rw [addr_add] at this
    exact this.trans hu
   refine ⟨_,List.ofFn (fun i => Classical.choose (hq i)),rfl,⟨⟨_,_,by simp; exact rfl,.inr ⟨b,off,rfl,hb,fun i hi j u hu => ?_⟩⟩,fun a n c e => by cases e; exact hl⟩,by simp; unfold maxLen at hm; omega,.inr ⟨es,sp,hes,by simpa using hel⟩⟩
   have hi' : i < len := by simpa using hi
   have := Classical.choose_spec (hq ⟨i,hi'⟩) j u (by simpa using hu)
   simpa using this
end Go.Proofs.YtlgcnbomfhmjiaaGreatDoor
