/-
  What is proved here: what joined answers: the lines of both parts.
  What is proved here: the chapter's example, as values.
  What is proved here: the chapter's rows, in memory.
  What is proved here: awake answers yes.
  What is proved here: what Height answers of any table.
-/
import Derived.Test.YtaphggjakaghjaaGreatDoorG36
import Derived.Test.YtaphggjakaghjaaGreatDoorG35
import Derived.Test.YtaphggjakaghjaaGreatDoorG28
import Derived.Test.YtaphggjakaghjaaGreatDoorG18
namespace Go.Proofs.YtaphggjakaghjaaGreatDoor
open Go.RowKit Go.Shelf
set_option maxRecDepth 100000
set_option maxHeartbeats 4000000

structure JnIs (a b d : Cel) : Prop where
 x : d.x = a.x
 w : d.w = a.w
 ls : d.ls = a.ls ++ b.ls
structure JI (w : World) (xs ys : List Cel) (k : Nat) (v : Value) (W : World) : Prop where
 low : Below w.heap.size w W
 ex : ∃ d : List Cel,d.length = k ∧ W.ownsRow w.heap.size 46 3 v d.length (d.flatMap ceL) ∧ ∀ i (h : i < d.length),JnIs (xs.getD i ce0) (ys.getD i ce0) d[i] ∧ W.ownsRow w.heap.size 55 7 d[i].v d[i].ls.length (d[i].ls.flatMap lxL) ∧ ∀ g,d[i].v.ownBlock = some g → v.ownBlock ≠ some g
theorem wpList_app_run {ops : Array Oper} {rest : List Oper} {oi : Oper} {a : Act} {w : World} {Q : Exit → Act → World → Prop} (hgd : oi.guard = none) (s x : Operand) (t : TypeId) (hop : oi.op = Op.call { callee := Callee.builtin Builtin.append,args := #[s,x],argTypes := #[t,t] })
  (v u v' : Value) (w' : World) (hs : a.eval s = v) (hx : a.eval x = u) (hrun : (Builtin.append_ #[t,t] oi.type #[v,u]).run Tryz.prog w = .ok v' w') (h : wpList Tryz.prog ops Q rest (a.put oi.dst v') w') : wpList Tryz.prog ops Q (oi :: rest) a w :=
 wpList_plain hgd fun _ hK => by
  unfold Oper.wp
  simp [execOp,hop,resolve,invoke,builtin,hs,hx,hrun,Result.andThen]
  exact hK _ _ h
theorem el46 : ElOk 37 46 3 40 := ElOk.of Tryz.underlying37 (by kernel_rfl)
theorem build46 (x y : Int) (a : Option Addr) (n c : Nat) (W : World) : (Instr.buildSlice 37 1 #[(0,.agg #[.int .i64 x,.int .i64 y,.slice a n c])]).run Tryz.prog W = .ok (.slice (some ⟨W.heap.size,0,none⟩) 1 1) (W.alloc (.cells #[.int .i64 x,.int .i64 y,.slice a n c] 46)) := by
 kernel_rfl
theorem wpList_build46 {ops : Array Oper} {rest : List Oper} {oi : Oper} {a : Act} {w : World} {Q : Exit → Act → World → Prop} (hgd : oi.guard = none) (z : Operand) (ho : oi.op = .buildSlice 37 1 #[(0,z)]) (x y : Int) (p : Option Addr) (n c : Nat) (hy : a.eval z = .agg #[.int .i64 x,.int .i64 y,.slice p n c])
  (h : wpList Tryz.prog ops Q rest (a.put oi.dst (.slice (some ⟨w.heap.size,0,none⟩) 1 1)) (w.alloc (.cells #[.int .i64 x,.int .i64 y,.slice p n c] 46))) : wpList Tryz.prog ops Q (oi :: rest) a w :=
 wpList_plain hgd fun _ hK => by
  have hr := build46 x y p n c w
  unfold Oper.wp execOp
  simp only [ho,List.map_toArray,List.map_cons,List.map_nil,hy,Sem.run_bind,Sem.run_pure,Result.andThen_ok,hr]
  exact hK _ _ h
theorem JI.step {w : World} {xs ys : List Cel} {k : Nat} {v : Value} {W W6 : World} (h : JI w xs ys k v W) (hk : k ≤ 5000) (hb : Below W.heap.size W W6) {x y : Int} {a : Option Addr} {n c : Nat} {ls : List Lx} (hi : JnIs (xs.getD k ce0) (ys.getD k ce0) ⟨x,y,.slice a n c,ls⟩) (hu : W6.ownsRow W.heap.size 55 7 (.slice a n c) ls.length (ls.flatMap lxL)) :
  ∃ (a' : Option Addr) (c' : Nat) (w' : World),(Builtin.append_ #[37,37] 37 #[v,.slice (some ⟨W6.heap.size,0,none⟩) 1 1]).run Tryz.prog (W6.alloc (.cells #[.int .i64 x,.int .i64 y,.slice a n c] 46)) = .ok (.slice a' (k + 1) c') w' ∧ JI w xs ys (k + 1) (.slice a' (k + 1) c') w' := by
 obtain ⟨d,rfl,hr,hc⟩ := h.ex
 obtain ⟨hut,i0,z,hi0,hz0,hz1,hz2,hz3⟩ := el46
 have hr6 := ownsRow_below hr hb
 have hlow := h.low.trans (hb.mono h.low.size)
 have hone : ∀ u ∈ ceL ⟨x,y,.slice a n c,ls⟩,u.oneCell' = true := by
  intro u hu
  simp only [ceL,List.mem_cons,List.not_mem_nil,or_false] at hu
  rcases hu with rfl | rfl | rfl <;> rfl
 obtain ⟨v',w',hrun,r1,r2,r3⟩ := run_append_where (P := Tryz.prog) (W6.alloc (.cells (ceL ⟨x,y,.slice a n c,ls⟩).toArray 46)) w.heap.size 37 37 46 i0 z 3 40 hut hi0 hz0 hz1 hz2 hz3 (by omega) v d.length (d.flatMap ceL) (hr6.alloc _) ⟨W6.heap.size,0,none⟩ 1 1 (ceL ⟨x,y,.slice a n c,ls⟩) rfl (rec_cells ceL_len W6 46 _) hone (by unfold maxLen; omega) (by omega) (by have := hlow.size; simp; omega)
 obtain ⟨a',c',rfl⟩ := owns_slice r1
 have hsa : (W6.alloc (.cells (ceL ⟨x,y,.slice a n c,ls⟩).toArray 46)).heap.size = W6.heap.size + 1 := World.size_alloc _ _
 have hsb := hb.size
 have hT : Turns (fun j => v.ownBlock = some j) W6 w' := by
  have t0 : Turns (fun j => v.ownBlock = some j) W6 (W6.alloc (.cells (ceL ⟨x,y,.slice a n c,ls⟩).toArray 46)) := Turns.alloc _ _ _
  exact t0.trans ⟨r2.os,r2.tape,r2.output,r2.size,fun j hj hX => r2.block j hj (fun e => hX e.symm)⟩
 have hnew : ∀ g,g < W6.heap.size → v.ownBlock ≠ some g → (Value.slice a' (d.length + 1) c').ownBlock ≠ some g := fun g hlt hne e => by
  rcases r3 with h | h
  ·exact hne (h.symm.trans e)
  ·have := h g e; omega
 have hlv : ∀ g,v.ownBlock = some g → w.heap.size ≤ g ∧ g < W.heap.size := fun g e => hr.lt g e
 refine ⟨a',c',w',hrun,hlow.trans (hT.below hlow.size (fun j hj => (hlv j hj).1)),d ++ [⟨x,y,.slice a n c,ls⟩],by simp,?_,fun i hi' => ?_⟩
 ·rw [List.length_append,List.flatMap_append]
  have e1 : [(⟨x,y,.slice a n c,ls⟩ : Cel)].flatMap ceL = ceL ⟨x,y,.slice a n c,ls⟩ := by simp
  rw [e1]
  exact r1
 ·by_cases e : i = d.length
  ·subst e
   have e2 : (d ++ [(⟨x,y,.slice a n c,ls⟩ : Cel)])[d.length]'hi' = ⟨x,y,.slice a n c,ls⟩ := by rw [List.getElem_append_right (Nat.le_refl _)]; simp
   rw [e2]
   have hne : ∀ g,(Value.slice a n c).ownBlock = some g → v.ownBlock ≠ some g := fun g hg e => by
    have := (hu.lt g hg).1
    have := (hlv g e).2
    omega
   exact ⟨hi,ownsRow_base (ownsRow_turns hu hT (fun g hg e => hne g hg e)) h.low.size,fun g hg => hnew g (hu.lt g hg).2 (hne g hg)⟩
  ·have hlt : i < d.length := by rw [List.length_append] at hi'; simp at hi'; omega
   have e2 : (d ++ [(⟨x,y,.slice a n c,ls⟩ : Cel)])[i]'hi' = d[i] := List.getElem_append_left hlt
   rw [e2]
   obtain ⟨q1,q2,q3⟩ := hc i hlt
   have q2' := ownsRow_below q2 hb
   exact ⟨q1,ownsRow_turns q2' hT (fun g hg e => q3 g hg e),fun g hg => hnew g (q2'.lt g hg).2 (q3 g hg)⟩
def JnEnd (xs ys : List Cel) (w : World) (e : Ending) (w' : World) : Prop := (∃ (v : Value) (d : List Cel),e = .returned v ∧ d.length = xs.length ∧ RecAt 3 ceL w' v d ∧ ∀ i (h : i < d.length),JnIs (xs.getD i ce0) (ys.getD i ce0) d[i] ∧ LxsAt w' d[i].v d[i].ls) ∧ Below w.heap.size w w'
theorem joined_any (v u : Value) (xs ys : List Cel) (w : World) (hn : ys.length = xs.length) (h4 : xs.length ≤ 400) (hA : RecAt 3 ceL w v xs) (hB : RecAt 3 ceL w u ys) (hla : ∀ c ∈ xs,LxsAt w c.v c.ls ∧ c.ls.length ≤ 20000) (hlb : ∀ c ∈ ys,LxsAt w c.v c.ls ∧ c.ls.length ≤ 20000) :
  Calls Tryz.prog 25 #[v,u] w (JnEnd xs ys w) := by
 have hat : Hid (∀ k,k < xs.length → ∀ W,Below w.heap.size w W → ∃ (ba oa ca bb ob cb : Nat) (x y : Int) (a1 a2 : Option Addr) (c1 c2 : Nat),v = .slice (some ⟨ba,oa,none⟩) xs.length ca ∧ u = .slice (some ⟨bb,ob,none⟩) xs.length cb ∧ ba < W.heap.size ∧ bb < W.heap.size ∧ W.rangeAt ba (oa + k * 3) [.int .i64 x,.int .i64 y,.slice a1 (xs.getD k ce0).ls.length c1] ∧ W.cell? ⟨bb,ob + k * 3 + 2,none⟩ = some (.slice a2 (ys.getD k ce0).ls.length c2) ∧ LxsAt W (.slice a1 (xs.getD k ce0).ls.length c1) (xs.getD k ce0).ls ∧ LxsAt W (.slice a2 (ys.getD k ce0).ls.length c2) (ys.getD k ce0).ls ∧ (xs.getD k ce0).ls.length ≤ 20000 ∧ (ys.getD k ce0).ls.length ≤ 20000 ∧ (xs.getD k ce0).x = x ∧ (xs.getD k ce0).w = y) := fun k hk W hb => by
  have hk' : k < ys.length := by omega
  have g1 : xs.getD k ce0 = xs[k] := by rw [List.getD_eq_getElem?_getD,List.getElem?_eq_getElem hk]; rfl
  have g2 : ys.getD k ce0 = ys[k] := by rw [List.getD_eq_getElem?_getD,List.getElem?_eq_getElem hk']; rfl
  obtain ⟨p1,cp1,rfl,e1⟩ := hA.ex
  obtain ⟨p2,cp2,rfl,e2⟩ := hB.ex
  rcases e1 with e1 | ⟨b1,o1,rfl,l1,r1⟩
  ·rw [e1] at hk; simp at hk
  ·rcases e2 with e2 | ⟨b2,o2,rfl,l2,r2⟩
   ·rw [e2] at hk'; simp at hk'
   ·have m1 := List.getElem_mem hk
    have m2 := List.getElem_mem hk'
    have q1 := (hla _ m1).1.below hb (Nat.le_refl _)
    have q2 := (hlb _ m2).1.below hb (Nat.le_refl _)
    obtain ⟨a1,c1,hv1,-⟩ := q1.ex
    obtain ⟨a2,c2,hv2,-⟩ := q2.ex
    refine ⟨b1,o1,cp1,b2,o2,cp2,xs[k].x,xs[k].w,a1,a2,c1,c2,rfl,by rw [hn],Nat.lt_of_lt_of_le l1 hb.size,Nat.lt_of_lt_of_le l2 hb.size,?_,?_,?_,?_,?_,?_,by rw [g1],by rw [g1]⟩
    ·rw [g1]
     have e : ceL xs[k] = [.int .i64 xs[k].x,.int .i64 xs[k].w,.slice a1 xs[k].ls.length c1] := by show [_,_,xs[k].v] = _; rw [hv1]
     rw [← e]
     exact fun j t ht => (hb.cell l1).trans (r1 k hk j t ht)
    ·rw [g2,← hv2]
     exact (hb.cell l2).trans (r2 k hk' 2 _ rfl)
    ·rw [g1,← hv1]; exact q1
    ·rw [g2,← hv2]; exact q2
    ·rw [g1]; exact (hla _ m1).2
    ·rw [g2]; exact (hlb _ m2).2
 have hend : Hid (∀ W v',JI w xs ys xs.length v' W → JnEnd xs ys w (.returned v') W) := fun W v' hI => by
  obtain ⟨d,hd,hr,hc⟩ := hI.ex
  exact ⟨⟨v',d,rfl,hd,rec_of_row ceL_len rfl hr,fun i hi => ⟨(hc i hi).1,rec_of_row lxL_len rfl (hc i hi).2.1⟩⟩,hI.low⟩
 obtain ⟨p1,q1,rfl⟩ : ∃ a c,v = .slice a xs.length c := by obtain ⟨a,c,h,_⟩ := hA.ex; exact ⟨a,c,h⟩
 obtain ⟨p2,q2,rfl⟩ : ∃ a c,u = .slice a xs.length c := by obtain ⟨a,c,h,_⟩ := hB.ex; exact ⟨a,c,by rw [h,hn]⟩
 have hI0 : Hid (JI w xs ys 0 (.slice none 0 0) w) := ⟨Below.refl _ _,[],rfl,World.ownsRow_nil _ _ _ _,fun i hi => by simp at hi⟩
 generalize JnEnd xs ys w = E at *
 clear hA hB hla hlb hn
 go_enter Tryz.func25,Tryz.ntmps25
 go_wp2_with fail
 go_loopw [5,6] (fun v5 v6 wr => ∃ (k : Nat) (a : Option Addr) (c : Nat),k ≤ xs.length ∧ v6 = .int .i64 (k : Int) ∧ v5 = .slice a k c ∧ Hid (JI w xs ys k (.slice a k c) wr)) (fun _ v6 _ => xs.length - (intOf v6).toNat)
 case atStart => exact ⟨0,none,0,by omega,rfl,rfl,hI0⟩
 case round =>
  obtain ⟨k,ra,rc,hk,rfl,rfl,hI⟩ := hrel
  clear hI0
  by_cases hlt : k < xs.length
  ·have hlt' : (k : Int) < (xs.length : Int) := by omega
   obtain ⟨ba,oa,ca,bb,ob,cb,x,y,a1,a2,c1,c2,e1,e2,hba,hbb,hrg,hcb,hl1,hl2,hn1,hn2,hx,hy⟩ := hat.out k hlt wr hI.out.low
   obtain ⟨rfl,-,rfl⟩ : p1 = some ⟨ba,oa,none⟩ ∧ True ∧ q1 = ca := by simpa using e1
   obtain ⟨rfl,-,rfl⟩ : p2 = some ⟨bb,ob,none⟩ ∧ True ∧ q2 = cb := by simpa using e2
   have hz0 : (wr.alloc (.cells #[.int .i64 0,.int .i64 0,.slice none 0 0] 46)).heap[wr.heap.size]? = some (.cells #[.int .i64 0,.int .i64 0,.slice none 0 0] 46 (0,0)) := World.alloc_heap_new wr _
   have hbx := below_box wr (.cells #[.int .i64 0,.int .i64 0,.slice none 0 0] 46) #[.int .i64 x,.int .i64 y,.slice a1 (xs.getD k ce0).ls.length c1]
   have hz1 := setRow_heap _ _ _ (#[.int .i64 x,.int .i64 y,.slice a1 (xs.getD k ce0).ls.length c1] : Array Value) _ _ hz0
   have hsz : Hid (((wr.alloc (.cells #[.int .i64 0,.int .i64 0,.slice none 0 0] 46)).setRow wr.heap.size #[.int .i64 x,.int .i64 y,.slice a1 (xs.getD k ce0).ls.length c1]).heap.size = wr.heap.size + 1) := by show _ = _; simp
   have hJn : Hid (∀ a n c,JnIs (xs.getD k ce0) (ys.getD k ce0) ⟨x,y,.slice a n c,(xs.getD k ce0).ls ++ (ys.getD k ce0).ls⟩) := fun a n c => ⟨hx.symm,hy.symm,rfl⟩
   have hh : Hid (wr.cell? ⟨bb,ob + k * 3 + 2,none⟩ = some (.slice a2 (ys.getD k ce0).ls.length c2) ∧ LxsAt wr (.slice a1 (xs.getD k ce0).ls.length c1) (xs.getD k ce0).ls ∧ LxsAt wr (.slice a2 (ys.getD k ce0).ls.length c2) (ys.getD k ce0).ls ∧ wr.rangeAt ba (oa + k * 3) [.int .i64 x,.int .i64 y,.slice a1 (xs.getD k ce0).ls.length c1]) := ⟨hcb,hl1,hl2,hrg⟩
   have hk4 : Hid (k ≤ 5000) := by show _ ≤ _; omega
   clear hcb hl1 hl2 hx hy e1 e2 hend hat
   generalize (xs.getD k ce0).ls = l1 at *
   generalize (ys.getD k ce0).ls = l2 at *
   go_wp2_with (first | (refine wpList_load_mid rfl 46 _ rfl ba (oa + k * 3) rfl [.int .i64 x,.int .i64 y,.slice a1 l1.length c1] _ hrg Tryz.underlying46 rfl (info46m _ _ _) ?_) | (refine wpList_store_row rfl 46 _ _ rfl wr.heap.size #[.int .i64 x,.int .i64 y,.slice a1 l1.length c1] rfl rfl 46 _ hz0 (info46 _ _ _) rfl (one46 _ _ _ _ _) ?_; clear hz0 hrg; generalize (wr.alloc (.cells #[.int .i64 0,.int .i64 0,.slice none 0 0] 46)).setRow wr.heap.size #[.int .i64 x,.int .i64 y,.slice a1 l1.length c1] = w5 at *))
   obtain ⟨h1,h2,h3,h4'⟩ := hh.out
   refine jn_r6 _ ?_ _ _ ba oa xs.length q1 bb ob xs.length q2 k wr.heap.size x y a1 a1 a2 l1.length l1.length l2.length c1 c1 c2 l1 l2 _ _ _ _ _ _ _ _ _ _ _ _ _ _ _ _ _ _ _ _ _ _ _ _ _ _ _ _ _ _ _ _ _ _ _ _ _ _ _ w5 hlt' hlt' hba hbb hsz.out hz1 ((hbx.cell hba).trans (h4' 2 _ rfl)) ((hbx.cell hbb).trans h1) (h2.below hbx (Nat.le_refl _)) (h3.below hbx (Nat.le_refl _)) hn1 hn2 ?_
   ·exact fun _ _ _ _ _ h => h
   intro u1 a3 n3 c3 w6 hu hb6
   have hszo := hsz.out
   have hb5 : Below wr.heap.size wr w6 := hbx.trans (hb6.mono (by omega))
   have hT7 := Turns.setCell (X := fun j => j = wr.heap.size) w6 (p := ⟨wr.heap.size,2,none⟩) rfl (.slice a3 n3 c3)
   have y6 := (hb6.block wr.heap.size (by omega)).trans hz1
   have y7 := heap_setCell_same w6 wr.heap.size 2 _ 46 (.slice a3 n3 c3) y6
   have hu7 := ownsRow_turns hu hT7 (fun g hg e => by have := (hu.lt g hg).1; omega)
   have hb7 : Below wr.heap.size wr (w6.setCell ⟨wr.heap.size,2,none⟩ (.slice a3 n3 c3)) := hb5.trans (hT7.below hb5.size (fun j hj => by omega))
   obtain ⟨ra',rc',w8,hrun,hI8⟩ := hI.out.step hk4.out hb7 (hJn.out a3 n3 c3) (ownsRow_base hu7 (by omega))
   have hI8h : Hid (JI w xs ys (k + 1) (.slice ra' (k + 1) rc') w8) := hI8
   have y7' : (w6.setCell ⟨wr.heap.size,2,none⟩ (.slice a3 n3 c3)).heap[wr.heap.size]? = some (.cells #[.int .i64 x,.int .i64 y,.slice a3 n3 c3] 46 (0,0)) := y7
   generalize w6.setCell ⟨wr.heap.size,2,none⟩ (.slice a3 n3 c3) = w7 at *
   replace hrun : Hid _ := hrun
   clear hI hI8 hJn hh hbx hsz hszo hb5 hT7 y6 y7 hu hu7 hb7 h1 h2 h3 h4' hb6
   go_wp2_with (first | (refine wpList_load_row rfl 46 _ rfl wr.heap.size rfl 46 _ (0,0) _ y7' Tryz.underlying46 rfl (info46 _ _ _) ?_) | (refine wpList_build46 rfl _ rfl x y a3 n3 c3 rfl ?_) | (refine wpList_app_run rfl _ _ 37 rfl (.slice ra k rc) (.slice (some ⟨w7.heap.size,0,none⟩) 1 1) (.slice ra' (k + 1) rc') w8 rfl rfl hrun.out ?_))
   exact ⟨⟨k + 1,ra',rc',by omega,rfl,rfl,hI8h.out⟩,by simp [intOf]; omega⟩
  ·have hkn : k = xs.length := by omega
   subst hkn
   have hge : ¬ ((xs.length : Nat) : Int) < (xs.length : Int) := by omega
   go_wp2_with fail
   exact hend.out _ _ hI.out
end Go.Proofs.YtaphggjakaghjaaGreatDoor

namespace Go.Proofs.YtaphggjakaghjaaGreatDoor
open Go.RowKit Go.Shelf

def xws : List Int := [16,14]
theorem x_ce0 : (ceI xws exl 0).map (fun y => (y.f,y.t,y.x)) = [(0,3,2),(3,4,2)] := by kernel_rfl
theorem x_ce1 : (ceI xws exl 1).map (fun y => (y.f,y.t,y.x)) = [(0,2,18)] := by kernel_rfl
theorem x_ck : ckT exl 2 0 = exl := rfl
theorem x_mx : mxN xws exl 2 = 2 := by
 have h0 : (ceI xws exl 0).length = 2 := by have := congrArg List.length x_ce0; rwa [List.length_map] at this
 have h1 : (ceI xws exl 1).length = 1 := by have := congrArg List.length x_ce1; rwa [List.length_map] at this
 show max (max 0 (ceI xws exl 0).length) (ceI xws exl 1).length = 2
 rw [h0,h1]; rfl
theorem list2 {α : Type} {l : List α} (h : l.length = 2) : ∃ a b,l = [a,b] := by
 match l,h with
 | [a,b],_ => exact ⟨a,b,rfl⟩
theorem list1 {α : Type} {l : List α} (h : l.length = 1) : ∃ a,l = [a] := by
 match l,h with
 | [a],_ => exact ⟨a,rfl⟩
structure XRow (r : Rw) (a0 b0 : Lx) (a1 : Lx) (c0 c1 : Cel) : Prop where
 h : r.h = 24
 sp : r.sp = [12]
 cs : r.cs = [c0,c1]
 x0 : c0.x = 0 ∧ c0.w = 16
 x1 : c1.x = 16 ∧ c1.w = 14
 l0 : c0.ls = [a0,b0]
 l1 : c1.ls = [a1]
 q0 : a0.f = 0 ∧ a0.t = 3 ∧ b0.t = 4 ∧ b0.x = 2
theorem x_row {r : Rw} (h : RwIs xws (ckT exl 2 0) r) : ∃ a0 b0 a1 c0 c1,XRow r a0 b0 a1 c0 c1 := by
 rw [x_ck] at h
 have hn : r.cs.length = 2 := h.n
 obtain ⟨c0,c1,hcs⟩ := list2 hn
 have h0 := h.cs 0 (by omega)
 have h1 := h.cs 1 (by omega)
 have g0 : r.cs[0]'(by omega) = c0 := by simp [hcs]
 have g1 : r.cs[1]'(by omega) = c1 := by simp [hcs]
 rw [g0] at h0
 rw [g1] at h1
 have hm : mxN xws exl exl.length = 2 := x_mx
 have hh := h.h
 have hsp := h.sp
 rw [hm] at hh hsp
 have e0 := x_ce0
 have e1 := x_ce1
 rw [← h0.ls] at e0
 rw [← h1.ls] at e1
 have n0 : c0.ls.length = 2 := by have := congrArg List.length e0; rwa [List.length_map] at this
 have n1 : c1.ls.length = 1 := by have := congrArg List.length e1; rwa [List.length_map] at this
 obtain ⟨a0,b0,e⟩ := list2 n0
 obtain ⟨a1,e'⟩ := list1 n1
 rw [e] at e0
 simp only [List.map_cons,List.map_nil,List.cons.injEq,Prod.mk.injEq] at e0
 exact ⟨a0,b0,a1,c0,c1,hh,hsp,hcs,⟨h0.x,h0.w⟩,⟨h1.x,h1.w⟩,e,e',⟨e0.1.1,e0.1.2.1,e0.2.1.2.1,e0.2.1.2.2⟩⟩
end Go.Proofs.YtaphggjakaghjaaGreatDoor

namespace Go.Proofs.YtaphggjakaghjaaGreatDoor
open Go.RowKit Go.Shelf
set_option maxRecDepth 100000
set_option maxHeartbeats 4000000

structure XSh (r : Rw) (c0 c1 : Cel) (T g0 g1 : Nat) (sa : Option Addr) (sc : Nat) : Prop where
 cv : r.cv = .slice (some ⟨T,0,none⟩) 2 2
 v0 : c0.v = .slice (some ⟨g0,0,none⟩) 2 2
 v1 : c1.v = .slice (some ⟨g1,0,none⟩) 1 1
 sv : r.sv = .slice sa 1 sc
theorem x_shape {lo : Nat} {W : World} {r : Rw} {a0 b0 a1 : Lx} {c0 c1 : Cel} (hR : RwAt lo W r) (hX : XRow r a0 b0 a1 c0 c1) : ∃ T g0 g1 sa sc,XSh r c0 c1 T g0 g1 sa sc := by
 obtain ⟨T,_,hv,_⟩ := hR.cv
 obtain ⟨g0,_,h0,_⟩ := (hR.cs c0 (by rw [hX.cs]; simp)).ex
 obtain ⟨g1,_,h1,_⟩ := (hR.cs c1 (by rw [hX.cs]; simp)).ex
 rcases hR.sp.2 with ⟨_,hn⟩ | ⟨g,cap,cur,e,-⟩
 ·rw [hX.sp] at hn; simp at hn
 ·refine ⟨T,g0,g1,some ⟨g,0,none⟩,cap,?_,?_,?_,?_⟩
  ·rw [hv,hX.cs]; rfl
  ·rw [h0,hX.l0]; rfl
  ·rw [h1,hX.l1]; rfl
  ·rw [e,hX.sp]; rfl
structure XC (W : World) (T g0 g1 : Nat) (sa : Option Addr) (sc : Nat) (a0 b0 a1 : Lx) : Prop where
 t0 : W.cell? ⟨T,0,none⟩ = some (.int .i64 0)
 t1 : W.cell? ⟨T,1,none⟩ = some (.int .i64 16)
 t2 : W.cell? ⟨T,2,none⟩ = some (.slice (some ⟨g0,0,none⟩) 2 2)
 t3 : W.cell? ⟨T,3,none⟩ = some (.int .i64 16)
 t4 : W.cell? ⟨T,4,none⟩ = some (.int .i64 14)
 t5 : W.cell? ⟨T,5,none⟩ = some (.slice (some ⟨g1,0,none⟩) 1 1)
 s : InAt W (.slice sa 1 sc) [12]
 l0 : LxsAt W (.slice (some ⟨g0,0,none⟩) 2 2) [a0,b0]
 l1 : LxsAt W (.slice (some ⟨g1,0,none⟩) 1 1) [a1]
 lt : T < W.heap.size
theorem x_cells {lo : Nat} {W : World} {r : Rw} {a0 b0 a1 : Lx} {c0 c1 : Cel} {T g0 g1 : Nat} {sa : Option Addr} {sc : Nat} (hR : RwAt lo W r) (hX : XRow r a0 b0 a1 c0 c1) (hS : XSh r c0 c1 T g0 g1 sa sc) : XC W T g0 g1 sa sc a0 b0 a1 := by
 obtain ⟨T',_,hv,hr⟩ := hR.cv
 rw [hS.cv] at hv
 obtain rfl : T = T' := by simpa using congrArg (fun v => match v with | Value.slice (some a) _ _ => a.block | _ => 0) hv
 have hcs : r.cs = [c0,c1] := hX.cs
 rw [hcs] at hr
 have k0 : ∀ j u,(ceL c0)[j]? = some u → W.cell? ⟨T,0 * 3 + j,none⟩ = some u := fun j u hu => (hr.all 0 (by simp) j u hu).1
 have k1 : ∀ j u,(ceL c1)[j]? = some u → W.cell? ⟨T,1 * 3 + j,none⟩ = some u := fun j u hu => (hr.all 1 (by simp) j u hu).1
 have hl : ∀ c ∈ r.cs,∀ (g n : Nat),c.v = .slice (some ⟨g,0,none⟩) n n → LxsAt W (.slice (some ⟨g,0,none⟩) n n) c.ls := fun c hc g n hg => by
  obtain ⟨g',_,h1,h2⟩ := (hR.cs c hc).ex
  rw [← hg,h1]; exact h2
 have hl0 := hl c0 (by rw [hcs]; simp) g0 2 hS.v0
 have hl1 := hl c1 (by rw [hcs]; simp) g1 1 hS.v1
 rw [hX.l0] at hl0
 rw [hX.l1] at hl1
 have hs := hR.sp
 rw [hX.sp,hS.sv] at hs
 refine ⟨?_,?_,?_,?_,?_,?_,rec_of_row (f := inL) (fun _ => rfl) rfl hs,hl0,hl1,hr.lt⟩
 ·have := k0 0 _ rfl; rw [hX.x0.1] at this; exact this
 ·have := k0 1 _ rfl; rw [hX.x0.2] at this; exact this
 ·have := k0 2 _ rfl; rw [hS.v0] at this; exact this
 ·have := k1 0 _ rfl; rw [hX.x1.1] at this; exact this
 ·have := k1 1 _ rfl; rw [hX.x1.2] at this; exact this
 ·have := k1 2 _ rfl; rw [hS.v1] at this; exact this
def XrEnd (w : World) (e : Ending) (w' : World) : Prop := (∃ r,e = .returned (.tuple #[.agg (rwL r).toArray,.bool true]) ∧ RwAt (w.heap.size + 1) w' r ∧ RwIs xws (ckT exl 2 0) r) ∧ Below w.heap.size w w'
theorem info39l (h : Int) (v u : Value) : (Tryz.prog.info? 39).map (·.size) = some ([Value.int .i64 h,v,u] : List Value).length := by show _ = some 3; kernel_rfl
theorem xrows_any (w : World) : Calls Tryz.prog 24 #[] w (XrEnd w) := by
 have hB0 := (Below.refl w.heap.size w).alloc (Nat.le_refl _) (.cells #[.int .i64 0,.slice none 0 0,.slice none 0 0] 39)
 have hs0 : (w.alloc (.cells #[.int .i64 0,.slice none 0 0,.slice none 0 0] 39)).heap.size = w.heap.size + 1 := World.size_alloc _ _
 have hB1 := hB0.alloc hB0.size (.cells #[.string { data := #[97,98,32,99] },.string { data := #[100,100] }] 9)
 have hst : StrsAt ((w.alloc (.cells #[.int .i64 0,.slice none 0 0,.slice none 0 0] 39)).alloc (.cells #[.string { data := #[97,98,32,99] },.string { data := #[100,100] }] 9)) (.slice (some ⟨w.heap.size + 1,0,none⟩) 2 2) exl := by
  have := strs_new (w.alloc (.cells #[.int .i64 0,.slice none 0 0,.slice none 0 0] 39)) exl
  rw [hs0] at this
  exact this
 have k0 : ((w.alloc (.cells #[.int .i64 0,.slice none 0 0,.slice none 0 0] 39)).alloc (.cells #[.string { data := #[97,98,32,99] },.string { data := #[100,100] }] 9)).heap[w.heap.size]? = some (.cells #[.int .i64 0,.slice none 0 0,.slice none 0 0] 39 (0,0)) := (Below.heap_alloc _ _ _ (by simp)).trans (World.alloc_heap_new w _)
 have hs1 : ((w.alloc (.cells #[.int .i64 0,.slice none 0 0,.slice none 0 0] 39)).alloc (.cells #[.string { data := #[97,98,32,99] },.string { data := #[100,100] }] 9)).heap.size = w.heap.size + 2 := by simp
 have hend : Hid (∀ r W,RwAt (w.heap.size + 1) W r → RwIs xws (ckT exl 2 0) r → Below w.heap.size w W → XrEnd w (.returned (.tuple #[.agg (rwL r).toArray,.bool true])) W) := fun r W h1 h2 h3 => ⟨⟨r,rfl,h1,h2⟩,h3⟩
 generalize XrEnd w = E at *
 have hrow := rows_yes 2 (.slice (some ⟨w.heap.size + 1,0,none⟩) 2 2) exl 30 ex_small _ hst ex_ck (by omega)
 generalize hw1 : (w.alloc (.cells #[.int .i64 0,.slice none 0 0,.slice none 0 0] 39)).alloc (.cells #[.string { data := #[97,98,32,99] },.string { data := #[100,100] }] 9) = w1 at *
 have hw1' : Hid ((w.alloc (.cells #[.int .i64 0,.slice none 0 0,.slice none 0 0] 39)).alloc (.cells #[.string { data := #[97,98,32,99] },.string { data := #[100,100] }] 9) = w1) := hw1
 have hcall : Hid (Calls Tryz.prog 9 #[.agg #[.int .i64 2,.slice (some ⟨w.heap.size + 1,0,none⟩) 2 2],.int .i64 30] w1 fun e w' => ∃ (g cap : Nat) (r : Rw) (a b : Value) (h : Int),(∃ sa n sc,a = .slice sa n sc) ∧ e = .returned (.tuple #[.slice (some ⟨g,0,none⟩) 1 cap,.int .i64 0]) ∧ RwAt w1.heap.size w' r ∧ RwIs xws (ckT exl 2 0) r ∧ rwL r = [.int .i64 h,a,b] ∧ w'.rangeAt g 0 [.int .i64 h,a,b] ∧ (∃ T,b = .slice (some ⟨T,0,none⟩) 2 2) ∧ w'.cell? ⟨g,2,none⟩ = some b ∧ Below w1.heap.size w1 w') := by
  refine hrow.mono ?_
  rintro e w' ⟨hb,(⟨h1,_⟩ | ⟨_,h1,_⟩ | ⟨_,_,u,rs,rfl,hA,hI⟩)⟩
  ·exact absurd ex_ck h1
  ·exact absurd (by omega) h1
  ·rw [show ((2 : Nat) : Int).toNat = 2 from rfl,ex_w30.1] at hI
   have hn : rs.length = 1 := by have := hI.num; have e : exl.length = 2 := rfl; rw [e] at this; omega
   obtain ⟨r,rfl⟩ := list1 hn
   have hrw := hA.row
   obtain ⟨g,cap,rfl,_,_,hrb⟩ := row_rb rwL_len hrw (by simp)
   have hRr := hA.rs r (by simp)
   have hIr := hI.rs 0 (by simp)
   have hk : ∀ j u,(rwL r)[j]? = some u → w'.cell? ⟨g,0 * 3 + j,none⟩ = some u := fun j u hu => (hrb.all 0 (by simp) j u hu).1
   obtain ⟨T,_,hcv,_⟩ := hRr.cv
   have hcn : r.cs.length = 2 := hIr.n
   refine ⟨g,cap,r,r.sv,r.cv,r.h,(by obtain ⟨x,y,e⟩ := owns_slice hRr.sp; exact ⟨x,_,y,e⟩),rfl,hRr,hIr,rfl,fun j v hv => ?_,⟨T,by rw [hcv,hcn]⟩,hk 2 _ rfl,hb⟩
   have := hk j v hv
   rwa [Nat.zero_mul] at this
 clear hw1 hrow hst hs0 hB0
 go_enter Tryz.func24,Tryz.ntmps24
 go_wp2_with (first | (rw [hw1'.out]; go_at_call 9; refine hcall.out.mono ?_; rintro e w2 ⟨g,cap,r,a,b,h,⟨sa,n,sc,rfl⟩,rfl,hR,hI,hrl,hrg,⟨T,rfl⟩,c2,hb2⟩; have k2 : w2.heap[w.heap.size]? = some (.cells #[.int .i64 0,.slice none 0 0,.slice none 0 0] 39 (0,0)) := (hb2.block _ (by omega)).trans k0; have hRh : Hid (RwAt w1.heap.size w2 r ∧ RwIs xws (ckT exl 2 0) r ∧ rwL r = [.int .i64 h,.slice sa n sc,.slice (some ⟨T,0,none⟩) 2 2]) := ⟨hR,hI,hrl⟩; clear hR hI hrl) | (refine wpList_load_mid rfl 39 _ rfl g 0 rfl [.int .i64 h,.slice sa n sc,.slice (some ⟨T,0,none⟩) 2 2] _ hrg Tryz.underlying39 rfl (info39l _ _ _) ?_) | (refine wpList_store_row rfl 39 _ _ rfl w.heap.size #[.int .i64 h,.slice sa n sc,.slice (some ⟨T,0,none⟩) 2 2] rfl rfl 39 _ k2 (info39w _ _ _) rfl (one39 _ _ _ _ _ rfl) ?_))
 refine bodyPost_ret (results_cell_row2 rfl _ _ w.heap.size 39 _ (0,0) _ rfl (setRow_heap _ _ _ _ _ _ k2) Tryz.underlying39 rfl (info39w _ _ _)) rfl ?_
 obtain ⟨hR,hI,hrl⟩ := hRh.out
 have hT := Turns.setRow (X := fun j => j = w.heap.size) w2 (r := w.heap.size) rfl #[.int .i64 h,.slice sa n sc,.slice (some ⟨T,0,none⟩) 2 2]
 have hB2 := hB1.trans (hb2.mono hB1.size)
 have he := hend.out r (w2.setRow w.heap.size #[.int .i64 h,.slice sa n sc,.slice (some ⟨T,0,none⟩) 2 2]) ((hR.turns hT (fun k hk e => by omega)).lo (by omega)) hI (hB2.trans (hT.below hB2.size (fun j hj => by omega)))
 rw [hrl] at he
 exact he
end Go.Proofs.YtaphggjakaghjaaGreatDoor

namespace Go.Proofs.YtaphggjakaghjaaGreatDoor
open Go.RowKit Go.Shelf
set_option maxRecDepth 100000
set_option maxHeartbeats 4000000

structure XAt (lo : Nat) (W : World) (T g0 g1 : Nat) (sa : Option Addr) (sc : Nat) (a0 b0 a1 : Lx) : Prop where
 ex : ∃ r c0 c1,RwAt lo W r ∧ XRow r a0 b0 a1 c0 c1 ∧ XSh r c0 c1 T g0 g1 sa sc
theorem XAt.below {lo : Nat} {W W' : World} {T g0 g1 : Nat} {sa : Option Addr} {sc : Nat} {a0 b0 a1 : Lx} (h : XAt lo W T g0 g1 sa sc a0 b0 a1) (hb : Below W.heap.size W W') : XAt lo W' T g0 g1 sa sc a0 b0 a1 := by
 obtain ⟨r,c0,c1,h1,h2,h3⟩ := h.ex
 exact ⟨r,c0,c1,h1.below hb,h2,h3⟩
theorem XAt.c {lo : Nat} {W : World} {T g0 g1 : Nat} {sa : Option Addr} {sc : Nat} {a0 b0 a1 : Lx} (h : XAt lo W T g0 g1 sa sc a0 b0 a1) : XC W T g0 g1 sa sc a0 b0 a1 := by
 obtain ⟨r,c0,c1,h1,h2,h3⟩ := h.ex
 exact x_cells h1 h2 h3
def xQ (a0 b0 : Lx) : Prop := a0.f = 0 ∧ a0.t = 3 ∧ b0.t = 4 ∧ b0.x = 2
theorem xrows_at (w : World) : Calls Tryz.prog 24 #[] w fun e w' => ∃ T g0 g1 sa sc a0 b0 a1,e = .returned (.tuple #[.agg #[.int .i64 24,.slice sa 1 sc,.slice (some ⟨T,0,none⟩) 2 2],.bool true]) ∧ XAt (w.heap.size + 1) w' T g0 g1 sa sc a0 b0 a1 ∧ xQ a0 b0 ∧ Below w.heap.size w w' := by
 refine (xrows_any w).mono ?_
 rintro e w' ⟨⟨r,rfl,hR,hI⟩,hb⟩
 obtain ⟨a0,b0,a1,c0,c1,hX⟩ := x_row hI
 obtain ⟨T,g0,g1,sa,sc,hS⟩ := x_shape hR hX
 refine ⟨T,g0,g1,sa,sc,a0,b0,a1,?_,⟨r,c0,c1,hR,hX,hS⟩,hX.q0,hb⟩
 have : (rwL r).toArray = #[.int .i64 24,.slice sa 1 sc,.slice (some ⟨T,0,none⟩) 2 2] := by
  show #[Value.int .i64 r.h,r.sv,r.cv] = _
  rw [hX.h,hS.sv,hS.cv]
 rw [this]
theorem in_one (w : World) (x : Int) : InAt (w.alloc (.cells #[.int .i64 x] 3)) (.slice (some ⟨w.heap.size,0,none⟩) 1 1) [x] := by
 have := rec_new (f := inL) (k := 1) (fun _ => rfl) w 3 [x]
 exact this
theorem awake19 (w : World) : Calls Tryz.prog 19 #[] w fun e w' => e = .returned (.bool true) ∧ Below w.heap.size w w' := by
 have hcall := xrows_at w
 go_enter Tryz.func19,Tryz.ntmps19
 go_wp2_with (first | (go_at_call 24; refine hcall.mono ?_; rintro e w2 ⟨T,g0,g1,sa,sc,a0,b0,a1,rfl,hX,hq,hb2⟩; have hB3 : Hid (Below w.heap.size w (w2.alloc (.cells #[.int .i64 24,.slice sa 1 sc,.slice (some ⟨T,0,none⟩) 2 2] 39))) := hb2.alloc hb2.size _; have hXh : Hid (∀ W,Below w2.heap.size w2 W → XC W T g0 g1 sa sc a0 b0 a1) := fun W hb => (hX.below hb).c; have hbx : Hid (∀ W,Below (w2.heap.size + 1) (w2.alloc (.cells #[.int .i64 24,.slice sa 1 sc,.slice (some ⟨T,0,none⟩) 2 2] 39)) W → W.heap[w2.heap.size]? = some (.cells #[.int .i64 24,.slice sa 1 sc,.slice (some ⟨T,0,none⟩) 2 2] 39 (0,0))) := fun W hb => (hb.block _ (by omega)).trans (World.alloc_heap_new w2 _); have h23 : Hid (Below w2.heap.size w2 (w2.alloc (.cells #[.int .i64 24,.slice sa 1 sc,.slice (some ⟨T,0,none⟩) 2 2] 39))) := (Below.refl w2.heap.size w2).alloc (Nat.le_refl _) _; (have d0 : (w2.alloc (.cells #[.int .i64 24,.slice sa 1 sc,.slice (some ⟨T,0,none⟩) 2 2] 39)).cell? ⟨w2.heap.size,0,none⟩ = some (.int .i64 24) := by rw [Lib.cell_of_heap (hbx.out _ (Below.refl _ _))]; rfl); (have d1 : (w2.alloc (.cells #[.int .i64 24,.slice sa 1 sc,.slice (some ⟨T,0,none⟩) 2 2] 39)).cell? ⟨w2.heap.size,1,none⟩ = some (.slice sa 1 sc) := by rw [Lib.cell_of_heap (hbx.out _ (Below.refl _ _))]; rfl); have hsi : Hid (Calls Tryz.prog 32 #[.slice sa 1 sc,.slice (some ⟨w2.heap.size + 1,0,none⟩) 1 1] ((w2.alloc (.cells #[.int .i64 24,.slice sa 1 sc,.slice (some ⟨T,0,none⟩) 2 2] 39)).alloc (.cells #[.int .i64 12] 3)) fun e w' => e = .returned (.bool true) ∧ Below ((w2.alloc (.cells #[.int .i64 24,.slice sa 1 sc,.slice (some ⟨T,0,none⟩) 2 2] 39)).alloc (.cells #[.int .i64 12] 3)).heap.size ((w2.alloc (.cells #[.int .i64 24,.slice sa 1 sc,.slice (some ⟨T,0,none⟩) 2 2] 39)).alloc (.cells #[.int .i64 12] 3)) w') := sameInts_yes (.slice sa 1 sc) _ [12] (by decide) _ (hXh.out _ (h23.out.alloc h23.out.size _)).s (by have := in_one (w2.alloc (.cells #[.int .i64 24,.slice sa 1 sc,.slice (some ⟨T,0,none⟩) 2 2] 39)) 12; rw [World.size_alloc] at this; exact this); clear hX hcall hq hb2) | (go_at_call 32; refine hsi.out.mono ?_; rintro e w5 ⟨rfl,hb5⟩; have hb35 : Below (w2.heap.size + 1) (w2.alloc (.cells #[.int .i64 24,.slice sa 1 sc,.slice (some ⟨T,0,none⟩) 2 2] 39)) w5 := ((Below.refl _ _).alloc (by simp) _).trans (hb5.mono (by simp)); have hx5 := hXh.out w5 (h23.out.trans (hb35.mono (by omega))); have hB5 : Hid (Below w.heap.size w w5) := hB3.out.trans (hb35.mono (by have := hB3.out.size; simpa using this)); (have e2 : w5.cell? ⟨w2.heap.size,2,none⟩ = some (.slice (some ⟨T,0,none⟩) 2 2) := by rw [Lib.cell_of_heap (hbx.out _ hb35)]; rfl); have t2 := hx5.t2; have t5 := hx5.t5; clear hx5 hb35 hb5 hsi hXh hbx h23 d0 d1 hB3))
 go_ret
 exact ⟨rfl,hB5.out⟩
end Go.Proofs.YtaphggjakaghjaaGreatDoor

namespace Go.Proofs.YtaphggjakaghjaaGreatDoor
open Go.RowKit Go.Shelf
set_option maxRecDepth 100000
set_option maxHeartbeats 4000000

def rw0 : Rw := ⟨0,.slice none 0 0,[],.slice none 0 0,[]⟩
def htN (rs : List Rw) : Nat → Int
 | 0 => 0
 | k + 1 => htN rs k + (rs.getD k rw0).h
theorem htN_rng {rs : List Rw} (h : ∀ r ∈ rs,0 ≤ r.h ∧ r.h ≤ 5000) : ∀ k,k ≤ rs.length → 0 ≤ htN rs k ∧ htN rs k ≤ 5000 * (k : Int)
 | 0,_ => by simp [htN]
 | k + 1,hk => by
  have ih := htN_rng h k (by omega)
  have hg : rs.getD k rw0 = rs[k] := by rw [List.getD_eq_getElem?_getD,List.getElem?_eq_getElem (by omega)]; rfl
  have := h _ (List.getElem_mem (show k < rs.length by omega))
  show 0 ≤ htN rs k + (rs.getD k rw0).h ∧ htN rs k + (rs.getD k rw0).h ≤ _
  rw [hg]; omega
theorem RwIs.rng {ws : List Int} {ts : List ByteArray} {r : Rw} (h : RwIs ws ts r) (ht : ∀ t ∈ ts,cellB t = true) : 0 ≤ r.h ∧ r.h ≤ 5000 := by
 have := h.h
 have := mxN_le (ws := ws) ht ts.length (Nat.le_refl _)
 omega
def HtEnd (c : Int) (l : List ByteArray) (q : Int) (w : World) (e : Ending) (w' : World) : Prop :=
 Below w.heap.size w w' ∧
 ((chkG c l ≠ 0 ∧ e = .returned (.tuple #[.int .i64 0,.int .i64 (chkG c l)])) ∨
 (chkG c l = 0 ∧ ¬ (0 ≤ q ∧ q ≤ 4095) ∧ e = .returned (.tuple #[.int .i64 0,.int .i64 5])) ∨
 (chkG c l = 0 ∧ (0 ≤ q ∧ q ≤ 4095) ∧ ∃ rs,e = .returned (.tuple #[.int .i64 (htN rs rs.length),.int .i64 0]) ∧ RwsIs c.toNat l (wdL c.toNat l q) rs))
theorem height_yes (n : Nat) (v : Value) (l : List ByteArray) (q : Int) (hsz : ∀ t ∈ l,t.size ≤ 9223372036854775807) (w : World) (hS : StrsAt w v l) (hz : chkG n l = 0) (hq : 0 ≤ q ∧ q ≤ 4095) :
  Calls Tryz.prog 11 #[.agg #[.int .i64 n,v],.int .i64 q] w (HtEnd n l q w) := by
 have hB0 := (Below.refl w.heap.size w).alloc (Nat.le_refl _) (.cells #[.int .i64 n,v] 24)
 have c0 : (w.alloc (.cells #[.int .i64 n,v] 24)).cell? ⟨w.heap.size,0,none⟩ = some (.int .i64 n) := by rw [Lib.cell_of_heap (World.alloc_heap_new w _)]; rfl
 have c1 : (w.alloc (.cells #[.int .i64 n,v] 24)).cell? ⟨w.heap.size,1,none⟩ = some v := by rw [Lib.cell_of_heap (World.alloc_heap_new w _)]; rfl
 have hcb := chk_all hz
 obtain ⟨n',hn',hn1,hl1,_,_⟩ := chk_ok hz
 have hrows : Hid (Calls Tryz.prog 9 #[.agg #[.int .i64 n,v],.int .i64 q] (w.alloc (.cells #[.int .i64 n,v] 24)) fun e w' => ∃ (u : Option Addr) (cap : Nat) (rs : List Rw),e = .returned (.tuple #[.slice u rs.length cap,.int .i64 0]) ∧ RecAt 3 rwL w' (.slice u rs.length cap) rs ∧ (∀ r ∈ rs,0 ≤ r.h ∧ r.h ≤ 5000) ∧ (∀ r ∈ rs,∃ a1 n1 k1 a2 n2 k2,r.sv = .slice a1 n1 k1 ∧ r.cv = .slice a2 n2 k2) ∧ rs.length ≤ 64 ∧ RwsIs (n : Int).toNat l (wdL (n : Int).toNat l q) rs ∧ Below w.heap.size w w') := by
  refine (rows_yes n v l q hsz _ (hS.below hB0 (Nat.le_refl _)) hz hq).mono ?_
  rintro e w' ⟨hb,(⟨h1,_⟩ | ⟨_,h1,_⟩ | ⟨_,_,u,rs,rfl,hA,hI⟩)⟩
  ·exact absurd hz h1
  ·exact absurd hq h1
  ·obtain ⟨a,cap,rfl⟩ := owns_slice hA.row
   refine ⟨a,cap,rs,rfl,rec_of_row rwL_len rfl hA.row,fun r hr => ?_,fun r hr => ?_,?_,hI,hB0.trans (hb.mono hB0.size)⟩
   ·obtain ⟨i,hi,rfl⟩ := List.getElem_of_mem hr
    exact (hI.rs i hi).rng (ck_cells hcb)
   ·obtain ⟨T,_,h1,_⟩ := (hA.rs r hr).cv
    obtain ⟨x,y,h2⟩ := owns_slice (hA.rs r hr).sp
    exact ⟨_,_,_,_,_,_,h2,h1⟩
   ·have h1 := hI.num
    rw [show ((n : Nat) : Int).toNat = n from rfl] at h1
    have h2 : rs.length * 1 ≤ rs.length * n := Nat.mul_le_mul_left _ (by omega)
    omega
 have hend : Hid (∀ (rs : List Rw) W,RwsIs (n : Int).toNat l (wdL (n : Int).toNat l q) rs → Below w.heap.size w W → HtEnd n l q w (.returned (.tuple #[.int .i64 (htN rs rs.length),.int .i64 0])) W) := fun rs W h1 h2 => ⟨h2,.inr (.inr ⟨hz,hq,rs,rfl,h1⟩)⟩
 generalize HtEnd n l q w = E at *
 clear hB0 hcb hn' hn1 hl1 hS hsz hz
 go_enter Tryz.func11,Tryz.ntmps11
 go_wp2_with (go_at_call 9; refine hrows.out.mono ?_; rintro e w2 ⟨u,cap,rs,rfl,hR,hrg,hsh,h64,hI,hb2⟩; have hRh : Hid (RecAt 3 rwL w2 (.slice u rs.length cap) rs ∧ (∀ r ∈ rs,0 ≤ r.h ∧ r.h ≤ 5000) ∧ (∀ r ∈ rs,∃ a1 n1 k1 a2 n2 k2,r.sv = .slice a1 n1 k1 ∧ r.cv = .slice a2 n2 k2) ∧ RwsIs (n : Int).toNat l (wdL (n : Int).toNat l q) rs ∧ Below w.heap.size w w2) := ⟨hR,hrg,hsh,hI,hb2⟩; clear hR hrg hsh hI hb2 hrows c0 c1)
 go_loopw [8,22] (fun v8 v22 wr => ∃ k : Nat,k ≤ rs.length ∧ v22 = .int .i64 (k : Int) ∧ v8 = .int .i64 (htN rs k) ∧ Hid (Below w2.heap.size w2 wr)) (fun _ v22 _ => rs.length - (intOf v22).toNat)
 case atStart => exact ⟨0,by omega,rfl,rfl,Below.refl _ _⟩
 case round =>
  obtain ⟨k,hk,rfl,rfl,hb⟩ := hrel
  by_cases hlt : k < rs.length
  ·have hlt' : (k : Int) < (rs.length : Int) := by omega
   obtain ⟨hR,hrg,hsh,-,-⟩ := hRh.out
   obtain ⟨b,o,rfl,_,hrow⟩ := RecAt.range (hR.below hb.out (Nat.le_refl _)) hlt
   have hm := List.getElem_mem hlt
   obtain ⟨a1,n1,k1,a2,n2,k2,hv1,hv2⟩ := hsh _ hm
   have hg : rs.getD k rw0 = rs[k] := by rw [List.getD_eq_getElem?_getD,List.getElem?_eq_getElem hlt]; rfl
   have hr1 := hrg _ hm
   have hr2 := htN_rng hrg k (by omega)
   have hnx : Hid (htN rs (k + 1) = htN rs k + rs[k].h) := by show htN rs k + (rs.getD k rw0).h = _; rw [hg]
   have e : rwL rs[k] = [.int .i64 rs[k].h,.slice a1 n1 k1,.slice a2 n2 k2] := by show [_,rs[k].sv,rs[k].cv] = _; rw [hv1,hv2]
   rw [e] at hrow
   have hz0 : (wr.alloc (.cells #[.int .i64 0,.slice none 0 0,.slice none 0 0] 39)).heap[wr.heap.size]? = some (.cells #[.int .i64 0,.slice none 0 0,.slice none 0 0] 39 (0,0)) := World.alloc_heap_new wr _
   have hbb := below_box wr (.cells #[.int .i64 0,.slice none 0 0,.slice none 0 0] 39) #[.int .i64 rs[k].h,.slice a1 n1 k1,.slice a2 n2 k2]
   have hz1 := setRow_heap _ _ _ (#[.int .i64 rs[k].h,.slice a1 n1 k1,.slice a2 n2 k2] : Array Value) _ _ hz0
   have hB5 : Hid (Below w2.heap.size w2 _) := hb.out.trans (hbb.mono hb.out.size)
   clear hR hrg hsh hv1 hv2 hg e hm hbb hend
   generalize rs[k].h = x at *
   generalize htN rs k = y at *
   go_wp2_with (first | (refine wpList_load_mid rfl 39 _ rfl b (o + k * 3) rfl [.int .i64 x,.slice a1 n1 k1,.slice a2 n2 k2] _ hrow Tryz.underlying39 rfl (info39l _ _ _) ?_) | (refine wpList_store_row rfl 39 _ _ rfl wr.heap.size #[.int .i64 x,.slice a1 n1 k1,.slice a2 n2 k2] rfl rfl 39 _ hz0 (info39w _ _ _) rfl (one39 _ _ _ _ _ rfl) ?_; clear hz0 hrow; generalize (wr.alloc (.cells #[.int .i64 0,.slice none 0 0,.slice none 0 0] 39)).setRow wr.heap.size #[.int .i64 x,.slice a1 n1 k1,.slice a2 n2 k2] = w5 at *; have d0 : w5.cell? ⟨wr.heap.size,0,none⟩ = some (.int .i64 x) := by rw [Lib.cell_of_heap hz1]; rfl))
   refine ⟨⟨k + 1,by omega,rfl,?_,hB5.out⟩,by simp [intOf]; omega⟩
   rw [hnx.out]
  ·have hkn : k = rs.length := by omega
   subst hkn
   have hge : ¬ ((rs.length : Nat) : Int) < (rs.length : Int) := by omega
   obtain ⟨-,-,-,hI,hb2⟩ := hRh.out
   have hfin := hend.out rs wr hI (hb2.trans (hb.out.mono hb2.size))
   clear hI hb2 hend
   go_wp2_with fail
   exact hfin
end Go.Proofs.YtaphggjakaghjaaGreatDoor
