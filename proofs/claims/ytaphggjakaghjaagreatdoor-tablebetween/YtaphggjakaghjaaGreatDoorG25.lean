/-
  What is proved here: the words of a cell, one round a word.
  What is proved here: a region that draws its order, with no defer statement in it, is walked in a round's frame as in a function's.
  What is proved here: how wide a cell's text is, at least and at most: the drawn regions.
  What is proved here: how wide a cell's text is, at least and at most.
-/
import Derived.Test.YtaphggjakaghjaaGreatDoorG24
import Derived.Test.YtaphggjakaghjaaGreatDoorG7
import Derived.Sort.BigQuietIn
import Derived.RangeFuncNested
import Derived.BigRegion
import Derived.BigQuiet
namespace Go.Proofs.YtaphggjakaghjaaGreatDoor
open Go.RowKit Go.Shelf
set_option maxRecDepth 100000
set_option maxHeartbeats 2000000
attribute [local go_sem] Oper.semAt_some wide_fn wide_depth

theorem wd_eq (l : List Ms) (k : Nat) : wd l (k + 1) = if (l.getD k ms0).k = 3 then ((wd l k).1 ++ [((wd l k).2,k)],k + 1) else wd l k := rfl
theorem wd_pre (l : List Ms) (k : Nat) : ∀ m,∃ r,(wd l (k + m)).1 = (wd l k).1 ++ r
 | 0 => ⟨[],by simp⟩
 | m + 1 => by
  obtain ⟨r,hr⟩ := wd_pre l k m
  rw [show k + (m + 1) = k + m + 1 by omega,wd_eq]
  split
  ·exact ⟨r ++ [((wd l (k + m)).2,k + m)],by rw [hr,List.append_assoc]⟩
  ·exact ⟨r,hr⟩
theorem wds_at {l : List Ms} {k : Nat} (hk : k < l.length) (h3 : (l.getD k ms0).k = 3) : (wd l k).1.length < (wds l).length ∧ (wds l).getD (wd l k).1.length (0,0) = ((wd l k).2,k) := by
 obtain ⟨r,hr⟩ := wd_pre l (k + 1) (l.length - (k + 1))
 rw [show k + 1 + (l.length - (k + 1)) = l.length by omega] at hr
 have e : (wd l (k + 1)).1 = (wd l k).1 ++ [((wd l k).2,k)] := by
  show (if (l.getD k ms0).k = 3 then _ else _ : List (Nat × Nat) × Nat).1 = _
  rw [if_pos h3]
 have hw : wds l = (wd l k).1 ++ (((wd l k).2,k) :: (r ++ [((wd l l.length).2,l.length)])) := by
  unfold wds
  rw [hr,e]; simp
 refine ⟨by rw [hw]; simp,?_⟩
 rw [hw,List.getD_eq_getElem?_getD,List.getElem?_append_right (Nat.le_refl _),Nat.sub_self]; rfl
theorem wds_end (l : List Ms) : (wds l).length = (wd l l.length).1.length + 1 ∧ (wds l).getD (wd l l.length).1.length (0,0) = ((wd l l.length).2,l.length) := by
 unfold wds
 refine ⟨by simp,?_⟩
 rw [List.getD_eq_getElem?_getD,List.getElem?_append_right (Nat.le_refl _),Nat.sub_self]; rfl
theorem wd_yes {l : List Ms} {k : Nat} (h3 : (l.getD k ms0).k = 3) : (wd l (k + 1)).2 = k + 1 ∧ (wd l (k + 1)).1.length = (wd l k).1.length + 1 := by
 have e : wd l (k + 1) = ((wd l k).1 ++ [((wd l k).2,k)],k + 1) := by
  show (if (l.getD k ms0).k = 3 then _ else _ : List (Nat × Nat) × Nat) = _
  rw [if_pos h3]
 rw [e]
 exact ⟨rfl,by simp⟩
theorem wd_not {l : List Ms} {k : Nat} (h3 : ¬ (l.getD k ms0).k = 3) : wd l (k + 1) = wd l k := by
 show (if (l.getD k ms0).k = 3 then _ else _ : List (Nat × Nat) × Nat) = _
 rw [if_neg h3]

theorem words_any (a : Option Addr) (n c : Nat) (w : World) : Calls Tryz.prog 100 #[.slice a n c] w fun e w' => e = .returned (.func (.func 137) #[] #[.pointer (some ⟨w.heap.size,0,none⟩)]) ∧ w' = w.alloc (.cells #[.slice a n c] 143) := by
 go_enter Tryz.func100,Tryz.ntmps100
 go_wp2
 go_ret
 exact ⟨rfl,rfl⟩

def slV (b o c : Nat) (f t : Nat) : Value := if c = f then .slice (some ⟨b,o,none⟩) (t - f) 0 else .slice (some ⟨b,o + f * 6,none⟩) (t - f) (c - f)
structure ReadW (Bt b o c : Nat) (l : List Ms) (W : World) : Prop where
 box : W.heap[Bt]? = some (.cells #[.slice (some ⟨b,o,none⟩) l.length c] 143 (0,0))
 ms : RecAt 6 msL W (.slice (some ⟨b,o,none⟩) l.length c) l
def encW (b o c : Nat) (l : List Ms) (i : Nat) : Array Value := #[slV b o c ((wds l).getD i (0,0)).1 ((wds l).getD i (0,0)).2]

theorem words1_gives (Bt b o c : Nat) (l : List Ms) (hl : l.length ≤ 200) (hc : l.length ≤ c) (hcm : c ≤ 9223372036854775807) :
  Gives Tryz.prog 137 #[.pointer (some ⟨Bt,0,none⟩)] (wds l).length (encW b o c l) (ReadW Bt b o c l) := by
 intro lo J Jx W hJ hJx hRd hY h0
 refine callsIn_wide (n := 0).1 ?_
 refine callsIn_of_wp Tryz.func137 rfl trivial ?_ rfl
 simp only [Tryz.ntmps137,List.size_toArray,List.length_cons,List.length_nil,Nat.reduceAdd,Nat.reduceSub,Array.replicate_succ,Array.replicate_zero,List.push_toArray,List.append_toArray,List.nil_append,List.cons_append]
 have hbx0 := (hRd _ _ _ h0).box
 have hc00 : W.cell? ⟨Bt,0,none⟩ = some (.slice (some ⟨b,o,none⟩) l.length c) := by rw [Lib.cell_of_heap hbx0]; rfl
 gi_wp2
 gi_loopw [3,8] (fun p q wr => ∃ (k : Nat) (X : Nat → Prop),k ≤ l.length ∧ q = .int .i64 (k : Nat) ∧ p = .int .i64 ((wd l k).2 : Nat) ∧ J (wd l k).1.length X wr) (fun _ q _ => l.length - (intOf q).toNat)
 case atStart => exact ⟨0,Noth,Nat.zero_le _,rfl,rfl,h0⟩
 case round =>
  obtain ⟨k,X,hk,rfl,rfl,hJs⟩ := hrel
  have hR := hRd _ _ _ hJs
  have hbx := hR.box
  obtain ⟨a',c',e',h2⟩ := hR.ms.ex
  cases e'
  by_cases hlt : k < l.length
  ·rcases h2 with h2 | ⟨b',o',e',hbl,hcl⟩
   ·rw [h2] at hlt; simp at hlt
   cases e'
   have hlt' : (k : Int) < l.length := by omega
   have c0 : wr.cell? ⟨b,o + k * 6,none⟩ = some (.int .i64 l[k].f) := hcl k hlt 0 _ rfl
   have c1 : wr.cell? ⟨b,o + k * 6 + 1,none⟩ = some (.int .i64 l[k].t) := hcl k hlt 1 _ rfl
   have c2 : wr.cell? ⟨b,o + k * 6 + 2,none⟩ = some (.int .i64 l[k].k) := hcl k hlt 2 _ rfl
   have c3 : wr.cell? ⟨b,o + k * 6 + 3,none⟩ = some (.int .i64 l[k].s) := hcl k hlt 3 _ rfl
   have c4 : wr.cell? ⟨b,o + k * 6 + 4,none⟩ = some (.int .i64 l[k].w) := hcl k hlt 4 _ rfl
   have c5 : wr.cell? ⟨b,o + k * 6 + 5,none⟩ = some (.int .i64 l[k].q) := hcl k hlt 5 _ rfl
   have hkd : (l.getD k ms0).k = l[k].k := by rw [getD_is hlt]
   have hJ' := hJ _ X X wr (wr.alloc (.cells (msL l[k]).toArray 147)) hJs (Turns.alloc _ _ _) (fun _ h => .inl h)
   have hbx' : wr.cell? ⟨Bt,0,none⟩ = some (.slice (some ⟨b,o,none⟩) l.length c) := by rw [Lib.cell_of_heap hbx]; rfl
   have hbl' := (Array.getElem?_eq_some_iff.1 hbx).1
   unfold msL at hJ'
   clear hcl hR hbx
   generalize l[k].f = x0 at *
   generalize l[k].t = x1 at *
   generalize hx2 : l[k].k = x2 at *
   generalize l[k].s = x3 at *
   generalize l[k].w = x4 at *
   generalize l[k].q = x5 at *
   by_cases h3 : x2 = 3
   ·subst h3
    obtain ⟨hi,hw⟩ := wds_at hlt hkd
    obtain ⟨y1,y2⟩ := wd_yes hkd
    have hle := (wd_le l k).1
    have hYk := hY _ _ _ hi hJ'
    unfold encW at hYk
    rw [hw] at hYk
    clear hw
    have hi' : Hid ((wd l k).1.length < (wds l).length) := hi
    clear hi
    generalize hff : (wd l k).2 = f at *
    have hs : slV b o c f k = .slice (some ⟨b,o + f * 6,none⟩) (k - f) (c - f) := if_neg (by omega)
    rw [hs] at hYk
    have hfk : (f : Int) ≤ k := by omega
    have hkc : (k : Int) ≤ c := by omega
    have hfc : ¬ (c : Int) = f := by omega
    have hlk : k ≤ 200 := by omega
    obtain ⟨fn,tmps,assign,body,hy,hR⟩ := hYk
    clear hs hkd
    gi_wp2_with fail
    refine hR.mono ?_
    rintro e W3 ⟨hk3,(⟨rfl,hJ3⟩ | ⟨rfl,hJx3⟩)⟩
    ·have hn : Hid (J (wd l (k + 1)).1.length X W3) := (by rw [y2]; exact hJ3 : J (wd l (k + 1)).1.length X W3)
     have hy1 : Hid ((wd l (k + 1)).2 = k + 1) := y1
     clear y1 y2 hJ3 hff
     gi_wp2
     go_roundw
     case rel => exact ⟨k + 1,X,by omega,by simp,by rw [hy1.out]; simp,hn⟩
     case measure => simp [intOf]; omega
    ·clear y1 y2 hff
     gi_wp2
     refine bodyPost_ret (results_none rfl _ _ _) rfl ?_
     exact ⟨⟨_,rfl⟩,.inr ⟨_,hi',hJx _ _ _ _ _ hJx3 (Turns.refl _ _) (fun _ h => h.elim)⟩⟩
   ·have hn : Hid (J (wd l (k + 1)).1.length X (wr.alloc (.cells #[.int .i64 x0,.int .i64 x1,.int .i64 x2,.int .i64 x3,.int .i64 x4,.int .i64 x5] 147))) := (by rw [wd_not (by rw [hkd]; exact h3)]; exact hJ' : J _ X _)
    have hy1 : Hid ((wd l (k + 1)).2 = (wd l k).2) := (by rw [wd_not (by rw [hkd]; exact h3)] : _ = _)
    have h3' : (x2 == 3) = false := by simpa using h3
    clear hJ' hJs hkd h3
    gi_wp2_with fail
    go_roundw
    case rel => exact ⟨k + 1,X,by omega,by simp,by rw [hy1.out],hn⟩
    case measure => simp [intOf]; omega
  ·obtain rfl : k = l.length := by omega
   obtain ⟨n1,n2⟩ := wds_end l
   have hle := (wd_le l l.length).1
   have hYk := hY _ _ _ (show (wd l l.length).1.length < (wds l).length by omega) hJs
   unfold encW at hYk
   rw [n2] at hYk
   have hbx' : wr.cell? ⟨Bt,0,none⟩ = some (.slice (some ⟨b,o,none⟩) l.length c) := by rw [Lib.cell_of_heap hbx]; rfl
   have hge : ¬ (l.length : Int) < l.length := by omega
   have hfin : Hid (∀ W',(J ((wd l l.length).1.length + 1) X W' ∨ Jx (wd l l.length).1.length X W') → J (wds l).length Noth W' ∨ ∃ i,i < (wds l).length ∧ Jx i Noth W') := fun W' h => by
    rcases h with h | h
    ·exact .inl (by rw [n1]; exact hJ _ _ _ _ _ h (Turns.refl _ _) (fun _ h => h.elim))
    ·exact .inr ⟨_,by omega,hJx _ _ _ _ _ h (Turns.refl _ _) (fun _ h => h.elim)⟩
   generalize hff : (wd l l.length).2 = f at *
   have hfk : (f : Int) ≤ l.length := by omega
   have hkc : (l.length : Int) ≤ c := by omega
   clear n1 n2 hff hbx hR h2
   by_cases hcf : c = f
   ·have hs : slV b o c f l.length = .slice (some ⟨b,o,none⟩) (l.length - f) 0 := if_pos hcf
    have hcf' : (c : Int) = f := by omega
    rw [hs] at hYk
    obtain ⟨fn,tmps,assign,body,hy,hR⟩ := hYk
    clear hs
    gi_wp2_with fail
    refine hR.mono ?_
    rintro e W3 ⟨hk3,(⟨rfl,hJ3⟩ | ⟨rfl,hJx3⟩)⟩
    ·gi_wp2
     go_end0
     exact ⟨⟨_,rfl⟩,hfin.out _ (.inl hJ3)⟩
    ·gi_wp2
     go_end0
     exact ⟨⟨_,rfl⟩,hfin.out _ (.inr hJx3)⟩
   ·have hs : slV b o c f l.length = .slice (some ⟨b,o + f * 6,none⟩) (l.length - f) (c - f) := if_neg hcf
    have hcf' : ¬ (c : Int) = f := by omega
    rw [hs] at hYk
    obtain ⟨fn,tmps,assign,body,hy,hR⟩ := hYk
    clear hs
    gi_wp2_with fail
    refine hR.mono ?_
    rintro e W3 ⟨hk3,(⟨rfl,hJ3⟩ | ⟨rfl,hJx3⟩)⟩
    ·gi_wp2
     go_end0
     exact ⟨⟨_,rfl⟩,hfin.out _ (.inl hJ3)⟩
    ·gi_wp2
     go_end0
     exact ⟨⟨_,rfl⟩,hfin.out _ (.inr hJx3)⟩
end Go.Proofs.YtaphggjakaghjaaGreatDoor

namespace Go.Proofs.YtaphggjakaghjaaGreatDoor
open Go.RowKit

def noDefer (ops : Array Oper) : Bool := ops.toList.all fun o => match o.op with | .defer _ => false | _ => true

theorem noDefer_spec {ops : Array Oper} (h : noDefer ops = true) {i : Nat} {o : Oper} (ho : ops[i]? = some o) : ∀ c,o.op ≠ .defer c := by
 intro c hc
 have hm : o ∈ ops.toList := by
  obtain ⟨hlt,he⟩ := Array.getElem?_eq_some_iff.1 ho
  rw [← he]; simp
 have := List.all_eq_true.1 h o hm
 rw [hc] at this
 cases this

theorem wpOpsIn_round {F : Fence} {n : Nat} {P : Program} {ops : Array Oper} {Q : Exit → Act → World → Prop} (hro : F.round = none) (hd : noDefer ops = true) (l : Nat) :
  ∀ (is : List Nat) (a : Act) (w : World),wpOpsIn F n P ops Q is a w → wpOpsIn (F.inRound l) n P ops Q is a w := by
 intro is
 induction is with
 | nil => exact fun a w h => h
 | cons i rest ih =>
  intro a w h
  rw [wpOpsIn_cons] at h ⊢
  unfold wpOpIn at h ⊢
  cases ho : ops[i]? with
  | none => simp only [ho] at h ⊢; exact ih _ _ h
  | some o =>
   simp only [ho] at h ⊢
   by_cases hw : Region.wanted o (yielded ops a.tmps) = true
   ·rw [if_pos hw] at h ⊢
    have h' := Oper.wpIn_mono (F := F) ih h
    unfold Oper.wpIn at h' ⊢
    rw [hro,Oper.semAt_none] at h'
    rw [Fence.inRound_round,Oper.semAt_some _ _ _ (noDefer_spec hd ho)]
    exact h'
   ·rw [if_neg hw] at h ⊢
    exact ⟨h.1,ih _ _ h.2⟩

theorem wpIn_region_round {F : Fence} {n : Nat} {P : Program} {ops : Array Oper} {Q : Exit → Act → World → Prop} {id : Nat} {a : Act} {w : World} {l : Nat} (hro : F.round = none) (hm : P.follows .mixedOrders = true) (hd : noDefer ops = true)
  (h : wpAnyIn F n P .any ops Q ops.size (Array.replicate ops.size false) a w.drew) : (Code.region id ops true).wpIn (F.inRound l) n P Q a w :=
 wpIn_region_draw fun t => by
  simp only [Region.schedule,hm,Bool.true_or,if_true]
  exact wpOpsIn_round hro hd l _ _ _ (wpAnyIn_sound ops.size t _ a _ h)

end Go.Proofs.YtaphggjakaghjaaGreatDoor

namespace Go.Proofs.YtaphggjakaghjaaGreatDoor
open Go.RowKit Go.Shelf
set_option maxRecDepth 100000
set_option maxHeartbeats 1000000
attribute [local go_sem] Oper.semAt_some wide_fn wide_depth

def opx5 (ps : String) : Array Oper := #[⟨some 16,.load 3 (.tmp 5),3,ps,#[],none⟩,⟨some 17,.move (.tmp 6),143,ps,#[],none⟩,⟨some 18,.call ⟨.value (.func 101),#[.tmp 17],#[143]⟩,3,ps,#[⟨1,.data⟩],none⟩,⟨some 19,.call ⟨.builtin .max,#[.tmp 16,.tmp 18],#[3,3]⟩,3,ps,#[⟨0,.data⟩,⟨2,.data⟩],none⟩,⟨none,.store 3 (.tmp 5) (.tmp 19),0,ps,#[⟨3,.data⟩,⟨2,.chain⟩,⟨0,.phase⟩,⟨1,.phase⟩,⟨2,.phase⟩,⟨3,.phase⟩],none⟩]

theorem ext_r5 (Q : Exit → Act → World → Prop) (hQ : ∀ c x (n : Nat) v w,Q (.panic c) (x.put (some n) v) w → Q (.panic c) x w) (id : Nat) (ps : String) (lo B5 : Nat) (x y : Int) (vw v0 v1 v2 v3 v4 v7 v8 v9 xa xb xc xd xe xf xk xl xm xn : Value) (W : World)
  (hb : W.heap[B5]? = some (.cells #[.int .i64 x] 3 (0,0)))
  (hN : Calls Tryz.prog 101 #[vw] W.drew fun e w' => e = .returned (.int .i64 y) ∧ Below W.heap.size W.drew w')
  (hK' : ∀ V' : World,Below W.heap.size W.drew V' → Q .normal { tmps := #[v0,v1,v2,v3,v4,.pointer (some ⟨B5,0,none⟩),vw,v7,v8,v9,xa,xb,xc,xd,xe,xf,.int .i64 x,vw,.int .i64 y,.int .i64 (max x y),xk,xl,xm,xn],defers := [] } (V'.setCell ⟨B5,0,none⟩ (.int .i64 (max x y)))) :
  (Code.region id (opx5 ps) true).wpIn (Fence.wide.inRound lo) 0 Tryz.prog Q { tmps := #[v0,v1,v2,v3,v4,.pointer (some ⟨B5,0,none⟩),vw,v7,v8,v9,xa,xb,xc,xd,xe,xf,undef,undef,undef,undef,xk,xl,xm,xn],defers := [] } W := by
 have hmx : Tryz.prog.follows .mixedOrders = true := by kernel_rfl
 refine wpIn_region_round rfl hmx (by kernel_rfl) ?_
 rw [show W.heap.size = W.drew.heap.size from rfl] at hN hK'
 have hd : W.drew.heap = W.heap := rfl
 generalize W.drew = V at *
 have hb' : V.heap[B5]? = some (.cells #[.int .i64 x] 3 (0,0)) := by rw [hd]; exact hb
 have c5 : V.cell? ⟨B5,0,none⟩ = some (.int .i64 x) := by rw [Lib.cell_of_heap hb']; rfl
 have hlt := (Array.getElem?_eq_some_iff.1 hb').1
 unfold opx5
 refine wpAnyIn_take (i := 1) (v := vw) rfl rfl (by kernel_rfl) (by kernel_rfl) (by kernel_rfl) (fun c x w => hQ c x _ _ w) ⟨Or.inl ⟨by rfl,?y1⟩,fun _ => rfl⟩ ?_
 case y1 => (intro w; go_simp)
 go_simp
 refine wpAnyIn_ready (rs := [0,2]) (by kernel_rfl) (by simp) ?_
 refine AllReadyIn.cons rfl (fun K hK => ?_) (AllReadyIn.cons rfl (fun K hK => ?_) AllReadyIn.nil)
 ·go_simp
  refine hK _ _ ?_
  clear hK K
  go_simp
  refine wpAnyIn_ready (rs := [2]) (by kernel_rfl) (by simp) ?_
  refine AllReadyIn.cons rfl (fun K hK => ?_) AllReadyIn.nil
  go_simp
  refine (callsIn_wide.2 hN).mono ?_
  rintro e w1 ⟨rfl,hbl⟩
  have hb1 : w1.heap[B5]? = some (.cells #[.int .i64 x] 3 (0,0)) := (hbl.block B5 hlt).trans hb'
  have c1 : w1.cell? ⟨B5,0,none⟩ = some (.int .i64 x) := by rw [Lib.cell_of_heap hb1]; rfl
  have z1 : w1.frozen? ⟨B5,0,none⟩ = false := Lib.frozen_of_heap hb1 _
  have hQ1 := hK' w1 hbl
  refine hK _ _ ?_
  clear hK K
  go_simp
  refine wpAnyIn_take (i := 3) (v := .int .i64 (max x y)) rfl rfl (by kernel_rfl) (by kernel_rfl) (by kernel_rfl) (fun c x w => hQ c x _ _ w) ⟨Or.inl ⟨by rfl,?y3⟩,fun _ => rfl⟩ ?_
  case y3 => (intro w; go_simp; split <;> omega)
  go_simp
  refine wpAnyIn_ready (rs := [4]) (by kernel_rfl) (by simp) ?_
  refine AllReadyIn.cons rfl (fun K hK => ?_) AllReadyIn.nil
  go_simp
  refine hK _ _ ?_
  clear hK K
  go_simp
  exact wpAnyIn_done (by kernel_rfl) hQ1 _
 ·go_simp
  refine (callsIn_wide.2 hN).mono ?_
  rintro e w1 ⟨rfl,hbl⟩
  have hb1 : w1.heap[B5]? = some (.cells #[.int .i64 x] 3 (0,0)) := (hbl.block B5 hlt).trans hb'
  have c1 : w1.cell? ⟨B5,0,none⟩ = some (.int .i64 x) := by rw [Lib.cell_of_heap hb1]; rfl
  have z1 : w1.frozen? ⟨B5,0,none⟩ = false := Lib.frozen_of_heap hb1 _
  have hQ1 := hK' w1 hbl
  refine hK _ _ ?_
  clear hK K
  go_simp
  refine wpAnyIn_ready (rs := [0]) (by kernel_rfl) (by simp) ?_
  refine AllReadyIn.cons rfl (fun K hK => ?_) AllReadyIn.nil
  go_simp
  refine hK _ _ ?_
  clear hK K
  go_simp
  refine wpAnyIn_take (i := 3) (v := .int .i64 (max x y)) rfl rfl (by kernel_rfl) (by kernel_rfl) (by kernel_rfl) (fun c x w => hQ c x _ _ w) ⟨Or.inl ⟨by rfl,?y3⟩,fun _ => rfl⟩ ?_
  case y3 => (intro w; go_simp; split <;> omega)
  go_simp
  refine wpAnyIn_ready (rs := [4]) (by kernel_rfl) (by simp) ?_
  refine AllReadyIn.cons rfl (fun K hK => ?_) AllReadyIn.nil
  go_simp
  refine hK _ _ ?_
  clear hK K
  go_simp
  exact wpAnyIn_done (by kernel_rfl) hQ1 _
def opx6 (ps : String) : Array Oper := #[⟨some 20,.load 3 (.tmp 5),3,ps,#[],none⟩,⟨some 21,.move (.tmp 3),143,ps,#[],none⟩,⟨some 22,.call ⟨.value (.func 101),#[.tmp 21],#[143]⟩,3,ps,#[⟨1,.data⟩],none⟩,⟨some 23,.build 74 #[(0,.tmp 20),(1,.tmp 22)],74,ps,#[⟨0,.data⟩,⟨2,.data⟩],none⟩,⟨none,.store 74 (.tmp 2) (.tmp 23),0,ps,#[⟨3,.data⟩,⟨2,.chain⟩,⟨0,.phase⟩,⟨1,.phase⟩,⟨2,.phase⟩,⟨3,.phase⟩],none⟩]

theorem ext_r6 (Q : Exit → Act → World → Prop) (id : Nat) (ps : String) (ds : List Deferred) (B5 B2 : Nat) (x y p0 p1 : Int) (vl v0 v1 v4 v6 v7 v8 v9 xa xb xc xd xe xf xg xh xi xj : Value) (W : World)
  (hb : W.heap[B5]? = some (.cells #[.int .i64 x] 3 (0,0))) (hb2 : W.heap[B2]? = some (.cells #[.int .i64 p0,.int .i64 p1] 74 (0,0)))
  (hN : Calls Tryz.prog 101 #[vl] W.drew fun e w' => e = .returned (.int .i64 y) ∧ Below W.heap.size W.drew w')
  (hK' : ∀ V' : World,Below W.heap.size W.drew V' → Q .normal { tmps := #[v0,v1,.pointer (some ⟨B2,0,none⟩),vl,v4,.pointer (some ⟨B5,0,none⟩),v6,v7,v8,v9,xa,xb,xc,xd,xe,xf,xg,xh,xi,xj,.int .i64 x,vl,.int .i64 y,.agg #[.int .i64 x,.int .i64 y]],defers := ds } ((V'.setCell ⟨B2,0,none⟩ (.int .i64 x)).setCell ⟨B2,1,none⟩ (.int .i64 y))) :
  (Code.region id (opx6 ps) true).wpIn Fence.wide 0 Tryz.prog Q { tmps := #[v0,v1,.pointer (some ⟨B2,0,none⟩),vl,v4,.pointer (some ⟨B5,0,none⟩),v6,v7,v8,v9,xa,xb,xc,xd,xe,xf,xg,xh,xi,xj,undef,undef,undef,undef],defers := ds } W := by
 refine wpIn_region_any (by kernel_rfl) ?_
 change wpAnyIn _ _ _ _ _ _ _ _ _ (World.drew W)
 rw [show W.heap.size = W.drew.heap.size from rfl] at hN hK'
 have hd : W.drew.heap = W.heap := rfl
 generalize W.drew = V at *
 have hb' : V.heap[B5]? = some (.cells #[.int .i64 x] 3 (0,0)) := by rw [hd]; exact hb
 have c5 : V.cell? ⟨B5,0,none⟩ = some (.int .i64 x) := by rw [Lib.cell_of_heap hb']; rfl
 have hlt := (Array.getElem?_eq_some_iff.1 hb').1
 have hb2' : V.heap[B2]? = some (.cells #[.int .i64 p0,.int .i64 p1] 74 (0,0)) := by rw [hd]; exact hb2
 have hlt2 := (Array.getElem?_eq_some_iff.1 hb2').1
 unfold opx6
 refine wpAnyIn_ready (rs := [0,1]) (by kernel_rfl) (by simp) ?_
 refine AllReadyIn.cons rfl (fun K hK => ?_) (AllReadyIn.cons rfl (fun K hK => ?_) AllReadyIn.nil)
 ·go_simp
  refine hK _ _ ?_
  clear hK K
  go_simp
  refine wpAnyIn_ready (rs := [1]) (by kernel_rfl) (by simp) ?_
  refine AllReadyIn.cons rfl (fun K hK => ?_) AllReadyIn.nil
  go_simp
  refine hK _ _ ?_
  clear hK K
  go_simp
  refine wpAnyIn_ready (rs := [2]) (by kernel_rfl) (by simp) ?_
  refine AllReadyIn.cons rfl (fun K hK => ?_) AllReadyIn.nil
  go_simp
  refine (callsIn_wide.2 hN).mono ?_
  rintro e w1 ⟨rfl,hbl⟩
  have hb1 : w1.heap[B5]? = some (.cells #[.int .i64 x] 3 (0,0)) := (hbl.block B5 hlt).trans hb'
  have c1 : w1.cell? ⟨B5,0,none⟩ = some (.int .i64 x) := by rw [Lib.cell_of_heap hb1]; rfl
  have z1 : w1.frozen? ⟨B5,0,none⟩ = false := Lib.frozen_of_heap hb1 _
  have hQ1 := hK' w1 hbl
  have hb3 : w1.heap[B2]? = some (.cells #[.int .i64 p0,.int .i64 p1] 74 (0,0)) := (hbl.block B2 hlt2).trans hb2'
  have e0 : w1.cell? ⟨B2,0,none⟩ = some (.int .i64 p0) := by rw [Lib.cell_of_heap hb3]; rfl
  have e1 : w1.cell? ⟨B2,1,none⟩ = some (.int .i64 p1) := by rw [Lib.cell_of_heap hb3]; rfl
  have f0 : w1.frozen? ⟨B2,0,none⟩ = false := Lib.frozen_of_heap hb3 _
  have f1 : w1.frozen? ⟨B2,1,none⟩ = false := Lib.frozen_of_heap hb3 _
  refine hK _ _ ?_
  clear hK K
  go_simp
  refine wpAnyIn_ready (rs := [3]) (by kernel_rfl) (by simp) ?_
  refine AllReadyIn.cons rfl (fun K hK => ?_) AllReadyIn.nil
  go_simp
  refine hK _ _ ?_
  clear hK K
  go_simp
  refine wpAnyIn_ready (rs := [4]) (by kernel_rfl) (by simp) ?_
  refine AllReadyIn.cons rfl (fun K hK => ?_) AllReadyIn.nil
  go_simp
  refine hK _ _ ?_
  clear hK K
  go_simp
  exact wpAnyIn_done (by kernel_rfl) hQ1 _
 ·go_simp
  refine hK _ _ ?_
  clear hK K
  go_simp
  refine wpAnyIn_ready (rs := [0,2]) (by kernel_rfl) (by simp) ?_
  refine AllReadyIn.cons rfl (fun K hK => ?_) (AllReadyIn.cons rfl (fun K hK => ?_) AllReadyIn.nil)
  ·go_simp
   refine hK _ _ ?_
   clear hK K
   go_simp
   refine wpAnyIn_ready (rs := [2]) (by kernel_rfl) (by simp) ?_
   refine AllReadyIn.cons rfl (fun K hK => ?_) AllReadyIn.nil
   go_simp
   refine (callsIn_wide.2 hN).mono ?_
   rintro e w1 ⟨rfl,hbl⟩
   have hb1 : w1.heap[B5]? = some (.cells #[.int .i64 x] 3 (0,0)) := (hbl.block B5 hlt).trans hb'
   have c1 : w1.cell? ⟨B5,0,none⟩ = some (.int .i64 x) := by rw [Lib.cell_of_heap hb1]; rfl
   have z1 : w1.frozen? ⟨B5,0,none⟩ = false := Lib.frozen_of_heap hb1 _
   have hQ1 := hK' w1 hbl
   have hb3 : w1.heap[B2]? = some (.cells #[.int .i64 p0,.int .i64 p1] 74 (0,0)) := (hbl.block B2 hlt2).trans hb2'
   have e0 : w1.cell? ⟨B2,0,none⟩ = some (.int .i64 p0) := by rw [Lib.cell_of_heap hb3]; rfl
   have e1 : w1.cell? ⟨B2,1,none⟩ = some (.int .i64 p1) := by rw [Lib.cell_of_heap hb3]; rfl
   have f0 : w1.frozen? ⟨B2,0,none⟩ = false := Lib.frozen_of_heap hb3 _
   have f1 : w1.frozen? ⟨B2,1,none⟩ = false := Lib.frozen_of_heap hb3 _
   refine hK _ _ ?_
   clear hK K
   go_simp
   refine wpAnyIn_ready (rs := [3]) (by kernel_rfl) (by simp) ?_
   refine AllReadyIn.cons rfl (fun K hK => ?_) AllReadyIn.nil
   go_simp
   refine hK _ _ ?_
   clear hK K
   go_simp
   refine wpAnyIn_ready (rs := [4]) (by kernel_rfl) (by simp) ?_
   refine AllReadyIn.cons rfl (fun K hK => ?_) AllReadyIn.nil
   go_simp
   refine hK _ _ ?_
   clear hK K
   go_simp
   exact wpAnyIn_done (by kernel_rfl) hQ1 _
  ·go_simp
   refine (callsIn_wide.2 hN).mono ?_
   rintro e w1 ⟨rfl,hbl⟩
   have hb1 : w1.heap[B5]? = some (.cells #[.int .i64 x] 3 (0,0)) := (hbl.block B5 hlt).trans hb'
   have c1 : w1.cell? ⟨B5,0,none⟩ = some (.int .i64 x) := by rw [Lib.cell_of_heap hb1]; rfl
   have z1 : w1.frozen? ⟨B5,0,none⟩ = false := Lib.frozen_of_heap hb1 _
   have hQ1 := hK' w1 hbl
   have hb3 : w1.heap[B2]? = some (.cells #[.int .i64 p0,.int .i64 p1] 74 (0,0)) := (hbl.block B2 hlt2).trans hb2'
   have e0 : w1.cell? ⟨B2,0,none⟩ = some (.int .i64 p0) := by rw [Lib.cell_of_heap hb3]; rfl
   have e1 : w1.cell? ⟨B2,1,none⟩ = some (.int .i64 p1) := by rw [Lib.cell_of_heap hb3]; rfl
   have f0 : w1.frozen? ⟨B2,0,none⟩ = false := Lib.frozen_of_heap hb3 _
   have f1 : w1.frozen? ⟨B2,1,none⟩ = false := Lib.frozen_of_heap hb3 _
   refine hK _ _ ?_
   clear hK K
   go_simp
   refine wpAnyIn_ready (rs := [0]) (by kernel_rfl) (by simp) ?_
   refine AllReadyIn.cons rfl (fun K hK => ?_) AllReadyIn.nil
   go_simp
   refine hK _ _ ?_
   clear hK K
   go_simp
   refine wpAnyIn_ready (rs := [3]) (by kernel_rfl) (by simp) ?_
   refine AllReadyIn.cons rfl (fun K hK => ?_) AllReadyIn.nil
   go_simp
   refine hK _ _ ?_
   clear hK K
   go_simp
   refine wpAnyIn_ready (rs := [4]) (by kernel_rfl) (by simp) ?_
   refine AllReadyIn.cons rfl (fun K hK => ?_) AllReadyIn.nil
   go_simp
   refine hK _ _ ?_
   clear hK K
   go_simp
   exact wpAnyIn_done (by kernel_rfl) hQ1 _

end Go.Proofs.YtaphggjakaghjaaGreatDoor

namespace Go.Proofs.YtaphggjakaghjaaGreatDoor
open Go.RowKit Go.Shelf
set_option maxRecDepth 100000
set_option maxHeartbeats 2000000
attribute [local go_sem] Oper.semAt_some wide_fn wide_depth

theorem rec_cut {W : World} {b o c : Nat} {l : List Ms} (h : RecAt 6 msL W (.slice (some ⟨b,o,none⟩) l.length c) l) {f t : Nat} (hft : f ≤ t) (ht : t ≤ l.length) (hc : l.length ≤ c) : RecAt 6 msL W (slV b o c f t) (cut l f t) := by
 have hl := cut_len (f := f) ht
 obtain ⟨⟨a,cap,e,h2⟩,_⟩ := h
 cases e
 unfold slV
 by_cases hcf : c = f
 ·rw [if_pos hcf]
  have h0 : cut l f t = [] := List.eq_nil_of_length_eq_zero (by omega)
  refine ⟨⟨_,_,by rw [hl],.inl h0⟩,fun a n c' e => ?_⟩
  cases e
  omega
 ·rw [if_neg hcf]
  refine ⟨⟨_,_,by rw [hl],?_⟩,fun a n c' e => ?_⟩
  ·by_cases h0 : f = t
   ·exact .inl (List.eq_nil_of_length_eq_zero (by omega))
   ·rcases h2 with h2 | ⟨b',o',e,hb,hcl⟩
    ·exfalso; rw [h2] at ht; simp at ht; omega
    ·cases e
     refine .inr ⟨b,o + f * 6,rfl,hb,fun i hi j u hu => ?_⟩
     rw [cut_get hi (by omega)] at hu
     have := hcl (f + i) (by omega) j u hu
     rw [show o + f * 6 + i * 6 + j = o + (f + i) * 6 + j by omega]
     exact this
  ·cases e
   omega
structure ReadV (Bt : Nat) (v : Value) (l : List Ms) (W : World) : Prop where
 box : W.heap[Bt]? = some (.cells #[v] 143 (0,0))
 ms : RecAt 6 msL W v l
theorem words1_none (Bt c : Nat) :
  Gives Tryz.prog 137 #[.pointer (some ⟨Bt,0,none⟩)] 1 (fun _ => #[.slice none 0 c]) (ReadV Bt (.slice none 0 c) []) := by
 intro lo J Jx W hJ hJx hRd hY h0
 refine callsIn_wide (n := 0).1 ?_
 refine callsIn_of_wp Tryz.func137 rfl trivial ?_ rfl
 simp only [Tryz.ntmps137,List.size_toArray,List.length_cons,List.length_nil,Nat.reduceAdd,Nat.reduceSub,Array.replicate_succ,Array.replicate_zero,List.push_toArray,List.append_toArray,List.nil_append,List.cons_append]
 have hbx0 := (hRd _ _ _ h0).box
 have hc00 : W.cell? ⟨Bt,0,none⟩ = some (.slice none 0 c) := by rw [Lib.cell_of_heap hbx0]; rfl
 have hYk := hY 0 Noth W (by omega) h0
 have hfin : Hid (∀ W',(J 1 Noth W' ∨ Jx 0 Noth W') → J 1 Noth W' ∨ ∃ i,i < 1 ∧ Jx i Noth W') := fun W' h => by
  rcases h with h | h
  ·exact .inl h
  ·exact .inr ⟨0,by omega,h⟩
 clear hJ hJx hRd hY hbx0
 obtain ⟨fn,tmps,assign,body,hy,hR⟩ := hYk
 gi_wp2
 gi_loopw [3,8] (fun p q wr => p = .int .i64 0 ∧ q = .int .i64 0 ∧ wr = W) (fun _ _ _ => 0)
 case atStart => exact ⟨rfl,rfl,rfl⟩
 case round =>
  obtain ⟨rfl,rfl,rfl⟩ := hrel
  gi_wp2_with fail
  refine hR.mono ?_
  rintro e W3 ⟨hk3,(⟨rfl,hJ3⟩ | ⟨rfl,hJx3⟩)⟩
  ·gi_wp2
   go_end0
   exact ⟨⟨_,rfl⟩,hfin.out _ (.inl hJ3)⟩
  ·gi_wp2
   go_end0
   exact ⟨⟨_,rfl⟩,hfin.out _ (.inr hJx3)⟩

theorem words_gives (Bt : Nat) (v : Value) (l : List Ms) (hl : l.length ≤ 200) (hv : (l = [] ∧ ∃ c,v = .slice none 0 c) ∨ ∃ b o c,v = .slice (some ⟨b,o,none⟩) l.length c ∧ l.length ≤ c ∧ c ≤ 9223372036854775807) :
  ∃ enc : Nat → Value,Gives Tryz.prog 137 #[.pointer (some ⟨Bt,0,none⟩)] (wds l).length (fun i => #[enc i]) (ReadV Bt v l) ∧
   ∀ (W : World),RecAt 6 msL W v l → ∀ (i : Nat) (hi : i < (wds l).length),RecAt 6 msL W (enc i) (cut l (wds l)[i].1 (wds l)[i].2) := by
 rcases hv with ⟨rfl,c,rfl⟩ | ⟨b,o,c,rfl,h1,h2⟩
 ·refine ⟨fun _ => .slice none 0 c,words1_none Bt c,fun W h i hi => ?_⟩
  have : i = 0 := by have : (wds ([] : List Ms)).length = 1 := rfl; omega
  subst this
  exact h
 ·refine ⟨fun i => slV b o c ((wds l).getD i (0,0)).1 ((wds l).getD i (0,0)).2,?_,fun W h i hi => ?_⟩
  ·intro lo J Jx W hJ hJx hRd hY h0
   exact words1_gives Bt b o c l hl h1 h2 lo J Jx W hJ hJx (fun i X W h => ⟨(hRd i X W h).box,(hRd i X W h).ms⟩) hY h0
  ·have e : (wds l).getD i (0,0) = (wds l)[i] := by rw [List.getD_eq_getElem?_getD,List.getElem?_eq_getElem hi]; rfl
   have hle := wds_le l _ (List.getElem_mem hi)
   show RecAt 6 msL W (slV b o c ((wds l).getD i (0,0)).1 ((wds l).getD i (0,0)).2) _
   rw [e]
   exact rec_cut h hle.1 hle.2 h1
def wmk (l : List Ms) (k : Nat) : Int := wmx l ((wds l).take k).reverse
theorem wmk_succ {l : List Ms} {k : Nat} (hk : k < (wds l).length) : wmk l (k + 1) = max (wmk l k) (runN l (wds l)[k].1 ((wds l)[k].2 - (wds l)[k].1)) := by
 unfold wmk
 rw [List.take_succ_eq_append_getElem hk,List.reverse_append]; rfl
theorem wmk_all (l : List Ms) : wmk l (wds l).length = exS l := by unfold wmk exS; rw [List.take_length]
theorem cut_nat {l : List Ms} (h : Flat l) {f t : Nat} (hft : f ≤ t) (ht : t ≤ l.length) : natV (cut l f t) 0 (cut l f t).length = runN l f (t - f) := by
 obtain ⟨h1,h2⟩ := flat_cut h hft ht
 rw [(flat_nat h1).2,h2]
theorem steady_box {w₁ : World} {own : Nat → Prop} {B : Nat} (hB : B < w₁.heap.size) (o : Nat → Obj) : Steady (fun i X W => Base w₁ own X W ∧ W.heap[B]? = some (o i)) :=
 fun _ _ _ _ _ hs ht hx => ⟨hs.1.step ht hx,(hs.1.keep ht hB).trans hs.2⟩
theorem rec_any {α : Type} {k : Nat} {f : α → List Value} {X : Nat → Prop} {W W' : World} {v : Value} {rs : List α} (h : RecAt k f W v rs) (ht : Turns X W W') (hg : ∀ g,v.ownBlock = some g → ¬ X g) : RecAt k f W' v rs := by
 obtain ⟨⟨a,cap,rfl,h2⟩,hle⟩ := h
 refine ⟨⟨_,_,rfl,?_⟩,hle⟩
 rcases h2 with h2 | ⟨b,o',rfl,hlt,hc⟩
 ·exact .inl h2
 ·refine .inr ⟨b,o',rfl,Nat.lt_of_lt_of_le hlt ht.size,fun i hi j u hu => ?_⟩
  rw [← hc i hi j u hu]
  unfold World.cell?
  rw [ht.block b hlt (hg b rfl)]

end Go.Proofs.YtaphggjakaghjaaGreatDoor
